/-
  Contracts of package num's appendVar and PutVar and of the document's answer PutVar
-/
import Derived.Test.YtmhejbihdghhaaaGreatDoorQcab
import Derived.Deep.DeepCutAuto
import Derived.IntWalk
import Derived.Test.YtmhejbihdghhaaaGreatDoorLa
import Derived.Test.YtmhejbihdghhaaaGreatDoorGa
import Derived.Deep.WholeRow
import Derived.Deep.QuietTactic
import Derived.BigQuiet
import Derived.Deep.LoopGhost
namespace Go.Proofs.YtmhejbihdghhaaaGreatDoor
set_option linter.unusedVariables false
section
open Go.RowKit
set_option maxRecDepth 20000
set_option maxHeartbeats 400000
def RetOwn (B:Nat)(w:World)(l:List UInt8)(e:Ending)(w':World):Prop:=∃A n c,e= .returned (.slice A n c)∧Own w' B 5 1 A n c (cells l)∧Below B w w'
theorem jd0 (A:Option Addr)(n c B:Nat)(l:List UInt8)(x:Nat)(w:World)(h:Own w B 5 1 A n c (cells l))(hB:B<=w.heap.size)(h47:n<=140737488355300)(hx:x<2 ^ 64):
  Calls Tryz.prog 190 #[.slice A n c, .int .u64 (x:Int)] w (RetOwn B w (l++venc 9 x)):=by
 have hln:=h.sl.len;rw [jaa,Nat.mul_one] at hln;have Hln:=qH hln;clear hln;go_enter Tryz.func190,Tryz.ntmps190;go_wp2_with fail;go_loopw [0,1] (λ v i wr=>∃(f y:Nat) (p:List UInt8) (A':Option Addr) (n' c':Nat),p++venc f y=venc 9 x∧p.length+f=9∧y<128 ^ (f+1)∧y<2 ^ 64∧i= .int .u64 (y:Int)∧v= .slice A' n' c' ∧Own wr B 5 1 A' n' c' (cells (l++p))∧Below B w wr) (λ _ i _=>(intOf i).toNat)
 case atStart=>exact⟨9,x, [],A,n,c,rfl,rfl,by omega,hx,rfl,rfl,by simpa using h,Below.refl _ _⟩
 case round=>
  obtain⟨f,y,p,A',n',c',hp,hpf,hy,hy64,rfl,rfl,ho,hb⟩:=hrel;have hlen:=ho.sl.len;rw [jaa,List.length_append,Hln.out,Nat.mul_one] at hlen;have Hp:=qH hp;clear hp;have Hpf:=qH hpf;clear hpf;have Hn:=qH hlen;clear hlen;have Hy:=qH hy;clear hy
  by_cases hlt:y<128
  ·have hge:¬(y:Int)≥128:=by omega
   have Hb:Hid ((y:Int)=((UInt8.ofNat y).toNat:Int)):=qH (by rw [UInt8.toNat_ofNat'];omega);go_wp2_with (at_builtin;refine jbg (B:=B) rfl (.tmp 16) (.tmp 19) rfl rfl (ho.alloc _) ?c1 (some ⟨wr.heap.size,0,none⟩) 1 1 [UInt8.ofNat y] rfl (Sl.one _ _ _ _ Hb.out) ?c3 ?c4)
   case c1=>have:=hb.size;simp;omega
   case c3=>have:=Hn.out;have:=Hpf.out;omega
   intro A2 c2 w2 ho2 hb2;go_wp2_with fail;go_ret;have h1:=hb.size;refine⟨A2,n'+1,c2,rfl, ?_,(hb.alloc (by omega) _).trans hb2⟩;rw [<-Hp.out,jej f y hlt,<-List.append_assoc,jai (l++p)];exact ho2
  ·have hge:(y:Int)≥128:=by omega
   obtain⟨q,hq⟩:∃q,q=UInt8.ofNat (y % 128+128):=⟨_,rfl⟩;have Hb:Hid ((y:Int) % 128+128=(q.toNat:Int)):=qH (by rw [hq,UInt8.toNat_ofNat'];omega);have Hq:=qH hq;clear hq;go_wp2_with (at_builtin;refine jbg (B:=B) rfl (.tmp 7) (.tmp 12) rfl rfl (ho.alloc _) ?d1 (some ⟨wr.heap.size,0,none⟩) 1 1 [q] rfl (Sl.one _ _ _ _ Hb.out) ?d3 ?d4)
   case d1=>have:=hb.size;simp;omega
   case d3=>have:=Hn.out;have:=Hpf.out;omega
   intro A2 c2 w2 ho2 hb2;go_wp2_with fail;go_roundw
   case rel=>
    have h1:=hb.size;obtain⟨f,rfl⟩:∃g,f=g+1:=by
     rcases f with _|g
     ·have:=Hy.out
      omega
     ·exact⟨g,rfl⟩
    refine⟨f,y / 128,p ++ [q],A2,n'+1,c2, ?_, ?_, ?_,by omega,by go_num,rfl, ?_,(hb.alloc (by omega) _).trans hb2⟩
    ·rw [<-Hp.out,jfG f y hlt,List.append_assoc,Hq.out]
     rfl
    ·have:=Hpf.out
     simp;omega
    ·have:=Hy.out
     rw [Nat.pow_succ] at this;exact Nat.div_lt_of_lt_mul (by rw [Nat.mul_comm];exact this)
    ·rw [<-List.append_assoc,jai (l++p)]
     exact ho2
   case measure=>simp [intOf];omega
theorem jdg (A:Option Addr)(n c:Nat)(l:List UInt8)(x:Nat)(w:World)(h:Sl w 1 A n c (cells l))(h47:n<=140737488355300)(hx:x<2 ^ 64):
  Calls Tryz.prog 131 #[.slice A n c, .int .u64 (x:Int)] w (jdA w.heap.size w (l++venc 9 x)):=by
 go_enter Tryz.func131,Tryz.ntmps131;go_wp2_with fail;refine(jc4 A n c h.cap h.top _).mono ?_;rintro e w' ⟨rfl,rfl⟩;go_wp2_with fail;refine(jd0 A n n w.heap.size l x _ (Own.full (h.recap (Nat.le_refl _) h.lim)) (Nat.le_refl _) h47 hx).mono ?_;rintro e w1 ⟨A1,n1,c1,rfl,h1,hb⟩;go_wp2_with fail;refine(jc4 A1 n1 c1 h1.sl.cap h1.sl.top _).mono ?_;rintro e w2 ⟨rfl,rfl⟩;go_wp2_with fail;go_ret;exact⟨A1,n1,n1,rfl,h1.sl.recap (Nat.le_refl _) h1.sl.lim,hb⟩
end
section
open Go.RowKit
open Go.RowKit
open Go.RowKit
open Go.RowKit
open Go.RowKit
open Go.RowKit
open Go.RowKit Go.Proofs
set_option maxRecDepth 20000
set_option maxHeartbeats 1600000
section
theorem pow7 (i:Nat):2 ^ (7*(i+1))=128*2 ^ (7*i):=by rw [Nat.mul_add,Nat.pow_add,Nat.mul_comm]
theorem jnP:∀(f i acc y:Nat) (r:List UInt8),i+f=9->acc+y*2 ^ (7*i)<2 ^ 64->(i=0∨y≠0)->
  vdec i acc (venc f y++r)=(acc+y*2 ^ (7*i),i +(venc f y).length,0):=by
 intro f
 induction f with
 |zero=>
  intro i acc y r hi hb h0;obtain rfl:i=9:=by omega
  have hy:y<=1:=by omega
  have hu:(UInt8.ofNat y).toNat=y:=by rw [UInt8.toNat_ofNat'];omega
  rw [venc,List.singleton_append,vdec,hu,if_neg (by omega),if_pos (by omega),Nat.mod_eq_of_lt (by omega)]
  rfl
 |succ f ih=>
  intro i acc y r hi hb h0
  by_cases hy:y<128
  ·have hu:(UInt8.ofNat y).toNat=y:=by rw [UInt8.toNat_ofNat'];omega
   rw [jej _ _ hy,List.singleton_append,vdec,hu,if_neg (by omega),if_pos hy,Nat.mod_eq_of_lt hy]
   rfl
  ·have hu:(UInt8.ofNat (y % 128+128)).toNat=y % 128+128:=by rw [UInt8.toNat_ofNat'];omega
   have hm:(y % 128+128) % 128=y % 128:=by omega
   have hs:acc+y % 128*2 ^ (7*i)+y / 128*2 ^ (7*(i+1))=acc+y*2 ^ (7*i):=by
    rw [pow7,<-Nat.mul_assoc,Nat.add_assoc,<-Nat.add_mul]
    congr 2
    omega
   rw [jfG _ _ hy,List.cons_append,vdec,hu,if_neg (by omega),if_neg (by omega),hm,ih (i+1) _ (y / 128) r (by omega) (by rw [hs];exact hb) (by omega),hs];simp only [List.length_cons]
   congr 2
   omega
theorem jrn:∀(l:List UInt8) (i acc n p:Nat),vdec i acc l=(n,p,0)->i<=9->acc<2 ^ (7*i)->
  i<p∧p<=i+l.length∧n<2 ^ 64∧∃y,n=acc+y*2 ^ (7*i)∧venc (9-i) y=l.take (p-i)∧(i=0∨y≠0):=by
 intro l
 induction l with
 |nil=>intro i acc n p h;simp [vdec] at h
 |cons u r ih=>
  intro i acc n p h hi ha;rw [vdec] at h
  by_cases hbad:(i=9∧1<u.toNat)∨(0<i∧u.toNat=0)
  ·rw [if_pos hbad] at h
   simp at h
  rw [if_neg hbad] at h;have hor:=jkk acc (u.toNat % 128) i ha (by omega) (by omega)
  by_cases hu:u.toNat<128
  ·rw [if_pos hu] at h
   simp only [Prod.mk.injEq] at h;obtain⟨rfl,rfl, -⟩:=h;refine⟨by omega,by simp,hor.2.2,u.toNat,by rw [Nat.mod_eq_of_lt hu], ?_,by omega⟩;rw [jej _ _ hu,show i+1-i=1 from by omega];simp
  ·rw [if_neg hu] at h
   have hi9:i≠9:=by omega
   obtain⟨h1,h2,h3,y,h4,h5,h6⟩:=ih (i+1) _ n p h (by omega) hor.2.1;have hul:=u.toNat_lt;refine⟨by omega,by simp;omega,h3,u.toNat % 128+128*y, ?_, ?_,by omega⟩
   ·rw [h4,pow7,Nat.add_mul,<-Nat.mul_assoc,Nat.mul_comm y 128,Nat.add_assoc]
   ·rw [show 9-i=(9-(i+1))+1 from by omega,jfG _ _ (by omega),show (u.toNat % 128+128*y) / 128=y from by omega,h5,show p-i=(p-(i+1))+1 from by omega,List.take_succ_cons]
    congr 1
    rw [show (u.toNat % 128+128*y) % 128+128=u.toNat from by omega];simp
theorem jnQ {l:List UInt8}{at_:Int}(h:(varR l at_).2.2=0):
  ∃a:Nat,at_=a∧a<(varR l at_).2.1∧(varR l at_).2.1<=l.length∧(varR l at_).1<2 ^ 64∧venc 9 (varR l at_).1=(l.drop a).take ((varR l at_).2.1-a):=by
 unfold varR at h ⊢
 by_cases hin:0<=at_∧at_<=l.length
 ·rw [if_pos hin] at h ⊢
  obtain⟨a,rfl⟩:=Int.eq_ofNat_of_zero_le hin.1;rw [Int.toNat_natCast] at h ⊢
  by_cases he:(vdec 0 0 (l.drop a)).2.2=0
  ·rw [if_pos he]
   obtain⟨h1,h2,h3,y,h4,h5, -⟩:=jrn (l.drop a) 0 0 (vdec 0 0 (l.drop a)).1 (vdec 0 0 (l.drop a)).2.1 (Prod.ext rfl (Prod.ext rfl he)) (by omega) (by omega);rw [List.length_drop] at h2;simp only [Nat.mul_zero,Nat.pow_zero,Nat.mul_one,Nat.zero_add,Nat.sub_zero] at h4 h5;refine⟨a,rfl,by show a<a+_;omega,by show a+_<=_;omega,h3, ?_⟩
   show venc 9 (vdec 0 0 (l.drop a)).1=(l.drop a).take (a+_-a)
   rw [h4,Nat.add_sub_cancel_left];exact h5
  ·rw [if_neg he] at h
   exact absurd h he
 ·rw [if_neg hin] at h
  simp at h
def jbI (l:List UInt8)(at_ most:Int):List UInt8 × Nat × Nat:=
 if (varR l at_).2.2≠0 then([],0,(varR l at_).2.2)
 else if max most 0<((varR l at_).1:Int) then([],0,6)
 else if l.length-(varR l at_).2.1<(varR l at_).1 then([],0,5)
 else((l.drop (varR l at_).2.1).take (varR l at_).1,(varR l at_).2.1 +(varR l at_).1,0)
theorem jfK (p r:List UInt8)(n:Nat)(hn:n<2 ^ 64):varR (p++venc 9 n++r) (p.length:Nat)=(n,p.length +(venc 9 n).length,0):=by
 have h:=jnP 9 0 0 n r rfl (by omega) (.inl rfl);simp only [Nat.mul_zero,Nat.pow_zero,Nat.mul_one,Nat.zero_add] at h;rw [jfF _ p.length (by simp) n (venc 9 n).length 0 (by rw [List.append_assoc,List.drop_left];exact h),if_pos rfl]
end
section
theorem var_in (A:Option Addr)(n c:Nat)(l:List UInt8)(a:Nat)(w:World)(h:Sl w 1 A n c (cells l))(ha:a<=n):
  Calls Tryz.prog 160 #[.slice A n c, .int .i64 (a:Int)] w λ e w' =>e= .returned (.tuple #[.int .u64 ((varR l a).1:Nat), .int .i64 ((varR l a).2.1:Nat), .int .i64 ((varR l a).2.2:Nat)])∧w=w':=by
 have hn:=h.lim;have hn':=hn;unfold maxLen at hn';have hcap:=h.cap;have hlen0:=h.len;rw [jaa,Nat.mul_one] at hlen0;have Hl:=qH hlen0;clear hlen0
 by_cases han:a=n
 ·have hz:varR l (a:Int)=(0,0,5):=by
   rw [jfF l a (by rw [Hl.out];omega) 0 0 5 (by rw [List.drop_of_length_le (by rw [Hl.out];omega)];rfl)]
   rfl
  rw [hz];clear hz;obtain rfl:n=a:=by omega
  by_cases hca:c=n
  ·obtain rfl:c=n:=by omega
   go_enter Tryz.func160,Tryz.ntmps160;go_wp2_with fail;refine(jcp A c c (c:Int) hn (by omega) (by omega) _).mono ?_;rintro e w' ⟨rfl,rfl⟩;go_wp2_with fail;go_loop [18] (λ i=>i= .int .i64 0) (λ _=>0)
   case atStart=>rfl
   case round=>
    obtain rfl:=hrel;go_wp2_with fail;go_ret3;exact⟨rfl,rfl⟩
  ·go_enter Tryz.func160,Tryz.ntmps160
   go_wp2_with fail;refine(jcp A n c (n:Int) hn (by omega) (by omega) _).mono ?_;rintro e w' ⟨rfl,rfl⟩;go_wp2_with fail;go_loop [18] (λ i=>i= .int .i64 0) (λ _=>0)
   case atStart=>rfl
   case round=>
    obtain rfl:=hrel;go_wp2_with fail;go_ret3;exact⟨rfl,rfl⟩
 ·obtain⟨b,o,rfl,hc⟩:=h.at_ (k:=0) (by omega)
  have hca:¬c=a:=by omega
  go_enter Tryz.func160,Tryz.ntmps160;go_wp2_with fail;refine(jcp _ n c (a:Int) hn (by omega) (by omega) _).mono ?_;rintro e w' ⟨rfl,rfl⟩;go_wp2_with fail;go_loop [7,18] (λ v i=>∃(k y:Nat),k<=n-a∧k<=9∧i= .int .i64 (k:Int)∧v= .int .u64 (y:Int)∧y<2 ^ (7*k)∧y<2 ^ 64∧vdec 0 0 (l.drop a)=vdec k y (l.drop (a+k))) (λ _ i=>n-a-(intOf i).toNat)
  case atStart=>exact⟨0,0,by omega,by omega,rfl,rfl,by omega,by omega,rfl⟩
  case round=>
   obtain⟨k,y,hk,hk9,rfl,rfl,hy,hy64,hv⟩:=hrel
   by_cases hlt:k<n-a
   ·obtain⟨u,hu⟩:∃u,l[a+k]? =some u:=⟨_,List.getElem?_eq_getElem (by rw [Hl.out];omega)⟩
    have hcell:w.cell? ⟨b,o+a+k,none⟩=some (.int .u8 (u.toNat:Int)):=by rw [Nat.add_assoc];exact hc _ _ (by simp [cells,hu,bv])
    have hd:l.drop (a+k)=u::l.drop (a +(k+1)):=by
     have hlt':a+k<l.length:=by rw [Hl.out];omega
     rw [List.drop_eq_getElem_cons hlt',Nat.add_assoc];rw [List.getElem?_eq_getElem hlt'] at hu;injection hu with hu
     rw [hu]
    rw [hd] at hv;have Hv:=qH hv;clear hv;have Hy:=qH hy;clear hy;clear hd hu;have hub:=u.toNat_lt
    generalize hx:u.toNat=x at *
    have Hx:=qH hx;clear hx;have hend:∀e,vdec k y (u::l.drop (a +(k+1)))=(0,0,e+1)->varR l (a:Int)=(0,0,e+1):=λ e he=>by
     rw [jfF l a (by rw [Hl.out];omega) 0 0 (e+1) (Hv.out.trans he)]
     rfl
    have Hend:=qH hend;clear hend
    by_cases h9:k=9∧1<x
    ·obtain⟨rfl,h1⟩:=h9
     have Hz:=qH (Hend.out 2 (by rw [vdec,Hx.out,if_pos (Or.inl ⟨rfl,h1⟩)]));have h1':(x:Int)>1:=by omega
     go_wp2_with fail;go_ret3;rw [Hz.out];exact⟨rfl,rfl⟩
    ·by_cases h0:0<k∧x=0
     ·obtain⟨h0,rfl⟩:=h0
      have Hz:=qH (Hend.out 2 (by rw [vdec,Hx.out,if_pos (Or.inr ⟨h0,rfl⟩)]));clear h9
      by_cases hk9':k=9
      ·obtain rfl:k=9:=hk9'
       go_wp2_with fail;go_ret3;rw [Hz.out];exact⟨rfl,rfl⟩
      ·have h9f:((k:Int)==9)=false:=by simp;omega
       clear hk9';go_wp2_with fail;go_ret3;rw [Hz.out];exact⟨rfl,rfl⟩
     ·have hno:¬((k=9∧1<x)∨(0<k∧x=0)):=λ h' =>h'.elim h9 h0
      obtain⟨ho1,ho2,ho3⟩:=jh4 y x k Hy.out (by omega);have Ho1:=qH ho1;clear ho1;have Ho2:=qH ho2;clear ho2;have Ho3:=qH ho3;clear ho3;have Hno:=qH hno;clear hno
      by_cases hx128:x<128
      ·have Hz:Hid (varR l (a:Int)=(y+x % 128*2 ^ (7*k),a +(k+1),0)):=qH (by
        rw [jfF l a (by rw [Hl.out];omega) _ _ 0 (Hv.out.trans (by rw [vdec,Hx.out,if_neg Hno.out,if_pos hx128]))]
        rfl)
       by_cases hk9':k=9
       ·have h9t:((k:Int)==9)=true:=by simp;omega
        have h1':¬(x:Int)>1:=by omega
        have h0':((x:Int)==0)=false:=by simp;omega
        have hk0:0<k:=by omega
        clear h9 h0 hk9';go_wp2_with fail;go_ret3;rw [Hz.out];exact⟨jiI Ho1.out (by show (a:Int)+k+1=((a +(k+1):Nat):Int);omega) rfl,rfl⟩
       ·have h9f:((k:Int)==9)=false:=by simp;omega
        clear h9 hk9'
        by_cases hk0:0<k
        ·have h0':((x:Int)==0)=false:=by simp;omega
         clear h0;go_wp2_with fail;go_ret3;rw [Hz.out];exact⟨jiI Ho1.out (by show (a:Int)+k+1=((a +(k+1):Nat):Int);omega) rfl,rfl⟩
        ·clear h0
         go_wp2_with fail;go_ret3;rw [Hz.out];exact⟨jiI Ho1.out (by show (a:Int)+k+1=((a +(k+1):Nat):Int);omega) rfl,rfl⟩
      ·have Hz:Hid (vdec 0 0 (l.drop a)=vdec (k+1) (y+x % 128*2 ^ (7*k)) (l.drop (a +(k+1)))):=qH (by
        rw [Hv.out,vdec,Hx.out,if_neg Hno.out,if_neg hx128])
       have h9f:((k:Int)==9)=false:=by simp;omega
       have hk8:k<9:=by omega
       clear h9
       by_cases hk0:0<k
       ·have h0':((x:Int)==0)=false:=by simp;omega
        clear h0;go_wp2_with fail;go_round
        case rel=>exact⟨k+1,y+x % 128*2 ^ (7*k),by omega,by omega,by go_num,by rw [Ho1.out],Ho2.out,Ho3.out,Hz.out⟩
        case measure=>simp [intOf];omega
       ·clear h0
        go_wp2_with fail;go_round
        case rel=>exact⟨k+1,y+x % 128*2 ^ (7*k),by omega,by omega,by go_num,by rw [Ho1.out],Ho2.out,Ho3.out,Hz.out⟩
        case measure=>simp [intOf];omega
   ·have Hz:Hid (varR l (a:Int)=(0,0,5)):=qH (by
     rw [jfF l a (by rw [Hl.out];omega) 0 0 5 (by rw [hv,List.drop_of_length_le (by rw [Hl.out];omega)];rfl)]
     rfl)
    clear hv;go_wp2_with fail;go_ret3;rw [Hz.out];exact⟨rfl,rfl⟩
theorem jro (A:Option Addr)(n c:Nat)(l:List UInt8)(at_:Int)(w:World)(h:Sl w 1 A n c (cells l))(ha:¬(0<=at_∧at_<=n)):
  Calls Tryz.prog 160 #[.slice A n c, .int .i64 at_] w λ e w' =>e= .returned (.tuple #[.int .u64 ((varR l at_).1:Nat), .int .i64 ((varR l at_).2.1:Nat), .int .i64 ((varR l at_).2.2:Nat)])∧w=w':=by
 have hn:=h.lim;have hl:=h.len;rw [jaa,Nat.mul_one] at hl;rw [jpy l at_ (by rw [hl];exact ha)];have Ha:=qH ha;clear ha hl;go_enter Tryz.func160,Tryz.ntmps160;go_wp2_with fail;refine(jh5 A n c at_ hn Ha.out _).mono ?_;rintro e w' ⟨rfl,rfl⟩;go_wp2_with fail;go_ret3;exact⟨rfl,rfl⟩
theorem jjt (A:Option Addr)(n c:Nat)(l:List UInt8)(at_:Int)(w:World)(h:Sl w 1 A n c (cells l)):
  Calls Tryz.prog 160 #[.slice A n c, .int .i64 at_] w λ e w' =>e= .returned (.tuple #[.int .u64 ((varR l at_).1:Nat), .int .i64 ((varR l at_).2.1:Nat), .int .i64 ((varR l at_).2.2:Nat)])∧w=w':=by
 by_cases ha:0<=at_∧at_<=n
 ·obtain⟨a,rfl⟩:=Int.eq_ofNat_of_zero_le ha.1
  exact var_in A n c l a w h (by omega)
 ·exact jro A n c l at_ w h ha
end
section
end
section
end
section
theorem jfL (A:Option Addr)(n c:Nat)(l:List UInt8)(at_:Int)(w:World)(h:Sl w 1 A n c (cells l)){n0 p0 e0:Nat}(hv:varR l at_=(n0,p0,e0)):
  Calls Tryz.prog 160 #[.slice A n c, .int .i64 at_] w λ e w' =>e= .returned (.tuple #[.int .u64 (n0:Int), .int .i64 (p0:Int), .int .i64 (e0:Int)])∧w=w':=by
 have:=jjt A n c l at_ w h;rw [hv] at this;exact this
theorem jg6 {v v':Value}{k2 k3:IntKind}{b c b' c':Int}(h1:v=v')(h2:b=b')(h3:c=c'):Ending.returned (.tuple #[v, .int k2 b, .int k3 c])=Ending.returned (.tuple #[v', .int k2 b', .int k3 c']):=by rw [h1,h2,h3]
def jrp (w:World)(r:List UInt8 × Nat × Nat)(e:Ending)(w':World):Prop:=
 ∃A n c,e= .returned (.tuple #[.slice A n c, .int .i64 (r.2.1:Int), .int .i64 (r.2.2:Int)])∧Sl w 1 A n c (cells r.1)∧w=w'
theorem jpI (A:Option Addr)(n c:Nat)(l:List UInt8)(at_ most:Int)(w:World)(h:Sl w 1 A n c (cells l))(hm:most<2 ^ 63)(hm': -2 ^ 63<=most):
  Calls Tryz.prog 252 #[.slice A n c, .int .i64 at_, .int .i64 most] w (jrp w (jbI l at_ most)):=by
 obtain⟨n0,p0,e0,hv⟩:∃n p e,varR l at_=(n,p,e):=⟨_,_,_,rfl⟩;have hn:=h.lim;unfold maxLen at hn;have hcap:=h.cap;have hlen0:=h.len;rw [jaa,Nat.mul_one] at hlen0;have Hl:=qH hlen0;clear hlen0;have hok:=jnQ (l:=l) (at_:=at_);rw [hv] at hok;have Hok:=qH hok;clear hok;have Hv:=qH hv;clear hv
 by_cases he:e0=0
 ·subst he
  obtain⟨a,ha,h1,h2,h3, -⟩:=Hok.out rfl;have h1:a<p0:=h1;have h2:p0<=n:=by have:=Hl.out;rw [<-this];exact h2
  have h3:n0<2 ^ 64:=h3;clear ha
  by_cases hmost:0<=most
  ·obtain⟨M,rfl⟩:=Int.eq_ofNat_of_zero_le hmost
   by_cases h6:M<n0
   ·have Hr:Hid (jbI l at_ M=([],0,6)):=qH (by
     unfold jbI;rw [Hv.out,if_neg (by simp),if_pos (by show max (M:Int) 0<(n0:Int);omega)])
    go_enter Tryz.func252,Tryz.ntmps252;go_wp2_with fail;refine(jfL A n c l at_ _ h Hv.out).mono ?_;rintro e w' ⟨rfl,rfl⟩;go_wp2_with fail;go_ret3;rw [Hr.out];exact⟨none,0,0,rfl,Sl.nil _ _ _ (by decide),rfl⟩
   by_cases h5:(n0:Int)>(n:Int)-p0
   ·have Hr:Hid (jbI l at_ M=([],0,5)):=qH (by
     unfold jbI;rw [Hv.out,if_neg (by simp),if_neg (by show ¬max (M:Int) 0<(n0:Int);omega),if_pos (by rw [Hl.out];show n-p0<n0;omega)])
    go_enter Tryz.func252,Tryz.ntmps252;go_wp2_with fail;refine(jfL A n c l at_ _ h Hv.out).mono ?_;rintro e w' ⟨rfl,rfl⟩;go_wp2_with fail;go_ret3;rw [Hr.out];exact⟨none,0,0,rfl,Sl.nil _ _ _ (by decide),rfl⟩
   have Hr:Hid (jbI l at_ M=((l.drop p0).take n0,p0+n0,0)):=qH (by
    unfold jbI;rw [Hv.out,if_neg (by simp),if_neg (by show ¬max (M:Int) 0<(n0:Int);omega),if_neg (by rw [Hl.out];show ¬n-p0<n0;omega)])
   have hn0:n0<=2 ^ 63-1:=by omega
   have hp0:p0+n0<=n:=by omega
   have Hp0:=qH hp0;clear hp0;have hd:decide ((n:Int)-p0<n0)=false:=by simp;omega
   have Hn0:=qH hn0;clear hn0;clear h5;obtain⟨E,hE⟩:∃E,E=p0+n0:=⟨_,rfl⟩;have hw:wrap64 ((p0:Int)+n0)=(E:Int):=by have:=Hp0.out;simp only [wrap64];omega
   have hE1:(E:Int)<=c:=by have:=Hp0.out;omega
   have hE2:(p0:Int)<=E:=by omega
   by_cases h0:n0=0
   ·have hE3:E=p0:=by omega
    subst hE3;have H0:=qH h0;clear h0 hE;go_enter Tryz.func252,Tryz.ntmps252;go_wp2_with fail;refine(jfL A n c l at_ _ h Hv.out).mono ?_;rintro e w' ⟨rfl,rfl⟩;go_upto_region 9 with (fail)
    clear hd h3 hcap hn h6 hm hm' hmost h1 h2;go_wp2_with fail;go_ret3;rw [Hr.out];refine⟨A,0,0,jg6 rfl ?_ rfl, ?_,rfl⟩
    ·show wrap64 _=_
     rw [hw,H0.out]
     rfl
    ·rw [H0.out]
     exact Sl.empty _ _ A 0 (by decide)
   ·have hE3:¬E=p0:=by omega
    have HE:=qH hE;clear hE;have hs:=h.sub1 p0 (p0+n0) n0 (by omega) Hp0.out (by omega) (by have:=Hp0.out;unfold maxLen;omega);rw [Nat.add_sub_cancel_left] at hs;go_enter Tryz.func252,Tryz.ntmps252;go_wp2_with fail;refine(jfL A n c l at_ _ h Hv.out).mono ?_;rintro e w' ⟨rfl,rfl⟩;go_upto_region 9 with (fail)
    clear hd h3 hcap hn h6 hm hm' hmost h1 h2 h0;go_wp2_with fail;go_ret3;rw [Hr.out];refine⟨_,n0,n0,jg6 ?_ ?_ rfl,hs,rfl⟩
    ·show Value.slice _ (E-p0) (E-p0)=_
     rw [HE.out,Nat.add_sub_cancel_left]
    ·show wrap64 _=_
     rw [hw,HE.out]
  ·by_cases h6:0<n0
   ·have Hr:Hid (jbI l at_ most=([],0,6)):=qH (by
     unfold jbI;rw [Hv.out,if_neg (by simp),if_pos (by show max most 0<(n0:Int);omega)])
    go_enter Tryz.func252,Tryz.ntmps252;go_wp2_with fail;refine(jfL A n c l at_ _ h Hv.out).mono ?_;rintro e w' ⟨rfl,rfl⟩;go_wp2_with fail;go_ret3;rw [Hr.out];exact⟨none,0,0,rfl,Sl.nil _ _ _ (by decide),rfl⟩
   ·obtain rfl:n0=0:=by omega
    have Hr:Hid (jbI l at_ most=([],p0,0)):=qH (by
     unfold jbI;rw [Hv.out,if_neg (by simp),if_neg (by show ¬max most 0<((0:Nat):Int);omega),if_neg (by simp)];simp)
    go_enter Tryz.func252,Tryz.ntmps252;go_wp2_with fail;refine(jfL A n c l at_ _ h Hv.out).mono ?_;rintro e w' ⟨rfl,rfl⟩;go_wp2_with fail;go_ret3;rw [Hr.out];exact⟨A,0,0,jg6 rfl (by simp) rfl,by simpa [cells] using Sl.empty _ _ A 0 (by decide),rfl⟩
 ·have Hr:Hid (jbI l at_ most=([],0,e0)):=qH (by
   unfold jbI;rw [Hv.out,if_pos he])
  have he':((e0:Int) !=0)=true:=by simp;omega
  go_enter Tryz.func252,Tryz.ntmps252;go_wp2_with fail;refine(jfL A n c l at_ _ h Hv.out).mono ?_;rintro e w' ⟨rfl,rfl⟩;go_wp2_with fail;go_ret3;rw [Hr.out];exact⟨none,0,0,rfl,Sl.nil _ _ _ (by decide),rfl⟩
end
section
theorem jpJ (A:Option Addr)(n c:Nat)(l:List UInt8)(at_ most:Int)(w:World)(h:Sl w 1 A n c (cells l))(hm:most<2 ^ 63)(hm': -2 ^ 63<=most):
  Calls Tryz.prog 218 #[.slice A n c, .int .i64 at_, .int .i64 most] w λ e w' =>e= .returned (.tuple #[.string (bstr (jbI l at_ most).1), .int .i64 ((jbI l at_ most).2.1:Nat), .int .i64 ((jbI l at_ most).2.2:Nat)])∧w=w':=by
 have hlong:=jpI A n c l at_ most w h hm hm';obtain⟨b0,p0,e0,hv⟩:∃n p e,jbI l at_ most=(n,p,e):=⟨_,_,_,rfl⟩;rw [hv] at hlong ⊢;have Hlong:=qH hlong;clear hlong hv;go_enter Tryz.func218,Tryz.ntmps218;go_wp2_with fail;refine Hlong.out.mono ?_;rintro e w1 ⟨A1,n1,c1,rfl,h1,rfl⟩;have k1:=jgG (P:=Tryz.prog) (w:=w) 105 5 9 Tryz.underlying105 Tryz.underlying5 Tryz.underlying9 h1;go_wp2_with fail;go_ret3;exact⟨rfl,rfl⟩
end
section
def ja0 (l:List UInt8)(at_ m:Int):Nat × Nat:=
 if ¬(1<=m∧m<=8)∨¬(0<=at_∧at_<=l.length) then(0,2)
 else if (l.length:Int)-at_<m then(0,5) else(jat ((l.drop at_.toNat).take m.toNat),0)
theorem jfM (A:Option Addr)(n c:Nat)(l:List UInt8)(at_ m:Int)(w:World)(h:Sl w 1 A n c (cells l)):
  Calls Tryz.prog 196 #[.slice A n c, .int .i64 at_, .int .i64 m] w λ e w' =>e= .returned (.tuple #[.int .u64 ((ja0 l at_ m).1:Nat), .int .i64 ((ja0 l at_ m).2:Nat)])∧w=w':=by
 have hl:=h.len;rw [jaa,Nat.mul_one] at hl;unfold ja0;rw [hl]
 by_cases hm:1<=m∧m<=8
 ·by_cases ha:0<=at_∧at_<=n
  ·rw [if_neg (λ hh=>hh.elim (λ x=>x hm) (λ x=>x ha))]
   obtain⟨a,rfl⟩:=Int.eq_ofNat_of_zero_le ha.1;obtain⟨k,rfl⟩:=Int.eq_ofNat_of_zero_le (show 0<=m by omega)
   by_cases hs:(n:Int)-a<k
   ·rw [if_pos hs]
    exact jnG A n c a k w h.lim hm.1 hm.2 (by omega) hs
   ·rw [if_neg hs]
    exact jqm A n c l a k w h (by omega) (by omega) (by omega)
  ·rw [if_pos (.inr ha)]
   exact jnF A n c at_ m w h.lim hm.1 hm.2 ha
 ·rw [if_pos (.inl hm)]
  exact jnE A n c at_ m w hm
theorem jnR (p r:List UInt8)(k n:Nat)(h1:1<=k)(h8:k<=8):ja0 (p++le k n++r) (p.length:Nat) (k:Nat)=(n % 256 ^ k,0):=by
 unfold ja0;rw [if_neg (by simp;omega),if_neg (by simp [jak];omega)];rw [Int.toNat_natCast,Int.toNat_natCast,List.append_assoc,List.drop_left];have:(le k n++r).take k=le k n:=by
  have h:=List.take_left (l₁:=le k n) (l₂:=r)
  rwa [jak] at h
 rw [this,jb5]
theorem jnS (l:List UInt8)(at_:Int)(m:Nat):(ja0 l at_ (m:Int)).1<256 ^ m:=by
 unfold ja0;have p:0<256 ^ m:=Nat.pow_pos (by decide)
 split
 ·exact p
 ·split
  ·exact p
  ·rw [Int.toNat_natCast]
   exact Nat.lt_of_lt_of_le (jb4 _) (Nat.pow_le_pow_right (by decide) (by rw [List.length_take];omega))
theorem jnT {l:List UInt8}{at_ m:Int}(h:(ja0 l at_ m).2=0):0<=at_∧at_+m<=l.length:=by
 unfold ja0 at h
 split at h
 ·cases h
 ·rename_i h1
  split at h
  ·cases h
  ·rename_i h2
   exact⟨by omega,by omega⟩
end
section
set_option linter.unusedSimpArgs false
theorem jh7 (k:Nat):((bstr (List.replicate k 0)).extract 0 k).data.map (λ b=>Value.int .u8 b.toNat)=Builtin.zeroCells #[.int .u8 0] k:=by
 apply Array.ext'
 have e1:(bstr (List.replicate k 0)).extract 0 k=bstr (List.replicate k 0):=by
  apply ByteArray.ext
  simp [bstr]
 rw [e1,Array.toList_map,jl6,List.map_replicate];simp only [Builtin.zeroCells,Array.toList_map,Array.toList_range]
 apply List.ext_getElem
 ·simp
 ·intro j h1 h2
  simp [Nat.mod_one]
theorem jf8 {P:Program}{t ts ti ty e:TypeId}{i:TypeInfo}(ht:P.underlying t=some (.slice e))(hti:P.underlying ti=some (.int .i64))(hts:P.underlying ts=some .string)(hi:P.info? e=some i)(hz:i.zero=some (.int .u8 0))(hsize:i.size=1)(hby:i.bytes=1)
  (A:Option Addr)(n c k:Nat)(hk0:0<k)(hk:k<=1000000)(hn:n<=1000000)(w:World):
  (Builtin.append_ #[t,ti] ty #[.slice A n c, .int .i64 (k:Int)]).run P w=(Builtin.append_ #[t,ts] ty #[.slice A n c, .string (bstr (List.replicate k 0))]).run P w:=by
 have hw:IntKind.i64.wrap (k:Int)=(k:Int):=by rw [IntKind.wrap_i64];omega
 have h1:¬(k:Int)<0:=by omega
 have h2:¬(k:Int)>281474976710656:=by omega
 have h2':¬(281474976710656:Int)<(k:Int):=by omega
 have h3:¬(9223372036854775807<((n:Int) +(k:Int))):=by omega
 have h4:k≠0:=by omega
 have hsz:(bstr (List.replicate k 0)).size=k:=by rw [jhp,List.length_replicate]
 have hc:=jh7 k;have hfit:¬(281474976710656<Builtin.nextslicecap (n+k) c)∨n+k<=c:=by
  rcases Nat.lt_or_ge c (n+k) with h|h
  ·left
   have:=growslice_fits (bytes:=1) (need:=n+k) (old:=c) h (by omega);omega
  ·exact .inr h
 have hfc:∀w':World,(Builtin.firstCells 1 k (.string (bstr (List.replicate k 0)))).run P w' = .ok (Builtin.zeroCells #[.int .u8 0] k) w':=λ w' =>by
  rw [<-hc];rfl
 by_cases hroom:n+k<=c
 ·simp [Builtin.append_,run_underlying ht,run_underlying hti,run_underlying hts,sizeOf,typeInfo,zeroValue,hi,hz,hsize,hby,asInt,asIntOf,hw,h1,h2,h2',h4,Builtin.lenOf,hsz,hroom,hfc,Value.cells]
 ·have hf:=hfit.resolve_right hroom
  simp [Builtin.append_,run_underlying ht,run_underlying hti,run_underlying hts,sizeOf,typeInfo,zeroValue,hi,hz,hsize,hby,asInt,asIntOf,hw,h1,h2,h2',h3,h4,Builtin.lenOf,hsz,hroom,hf,hfc,Value.cells]
theorem jlB {w:World}{B n c:Nat}{T:TypeId}{A:Option Addr}{xs:List Value}(h:w.ownsRow B T 1 (.slice A n c) n xs)(hn:0<n):Own w B T 1 A 0 c []:=by
 rcases h.2 with ⟨hv,h0⟩|⟨g,cap,cur,hv,hb,hg,hnc,hcm,hcs,ht⟩
 ·omega
 ·injection hv with e1 e2 e3
  subst e1 e3;exact⟨⟨rfl,Nat.zero_le _,by omega,λ j u hu=>by simp at hu⟩, .inr ⟨rfl, .inr ⟨g,c,cur,rfl,hb,hg,Nat.zero_le _,hcm,hcs,rfl⟩⟩⟩
theorem jd1 {w:World}{B:Nat}{ops:Array Oper}{rest:List Oper}{o:Oper}{a:Act}{Q:Exit->Act->World->Prop}(hgd:o.guard=none)(s x:Operand)
  (ho:o.op= .call {callee:= .builtin .append,args:= #[s,x],argTypes:= #[105,3]})
  (hv:a.eval s= .slice none 0 0)(hB:B<=w.heap.size)(k:Nat)(hx:a.eval x= .int .i64 (k:Int))(hk0:0<k)(hk1:k<=1000000)
  (hk:∀A' c' w',Own w' B 5 1 A' 0 c' []->k<=c' ->c' <=maxLen->Below B w w' ->wpList Tryz.prog ops Q rest (a.put o.dst (.slice A' k c')) w'):wpList Tryz.prog ops Q (o::rest) a w:=by
 obtain⟨i0,hi,hz0,hz1,hz2⟩:=info_parts jbf;have hs:=Src.ofString (P:=Tryz.prog) w Tryz.underlying9 (bstr (List.replicate k 0));have hsz:(bstr (List.replicate k 0)).size=k:=by rw [jhp,List.length_replicate]
 rw [hsz] at hs;obtain⟨A',c',w',hr,h2,h3,h4⟩:=jaK (P:=Tryz.prog) 105 9 o.type i0 (.int .u8 0) 1 Tryz.underlying105 hi hz0 hz1 hz2 rfl (by decide) (Own.full (B:=B) (Sl.nil w 1 0 (by decide))) hB (.string (bstr (List.replicate k 0))) k (cells (bstr (List.replicate k 0)).data.toList) hs (by unfold maxLen;omega) (by omega);rw [<-jf8 (ti:=3) Tryz.underlying105 Tryz.underlying3 Tryz.underlying9 hi hz0 hz1 hz2 none 0 0 k hk0 hk1 (by decide) w] at hr;refine wpList_plain hgd λ _ hK=> ?_
 unfold Oper.wp execOp;simp only [ho,resolve,invoke,builtin,Sem.run_bind,Sem.run_pure,Result.andThen_ok,List.map_toArray,List.map_cons,List.map_nil,hv,hx,hr];have h5:=h4 hk0;rw [Nat.zero_add] at h5 h2 ⊢;exact hK _ _ (hk A' c' w' (jlB h5 hk0) h2.sl.cap h2.sl.top h3)
end
end
section
open Go.RowKit Go.Proofs
set_option maxRecDepth 20000
set_option maxHeartbeats 800000
end
section
open Go.RowKit Go.Proofs
open Go.RowKit Go.Proofs
open Go.RowKit Go.Proofs
set_option maxRecDepth 20000
set_option maxHeartbeats 1600000
section
end
section
end
section
end
end
section
open Go.RowKit Go.Proofs
open Go.RowKit Go.Proofs
set_option maxRecDepth 20000
set_option maxHeartbeats 1600000
section
theorem jbj {ops:Array Oper}{rest:List Oper}{o:Oper}{a:Act}{Q:Exit->Act->World->Prop}(hgd:o.guard=none)(x y:Operand)(ho:o.op= .store 244 x y)(w0:World)(s:Sh)
  (hx:a.eval x= .pointer (some ⟨w0.heap.size,0,none⟩))(hy:a.eval y= .agg s.cs.toArray)(h:wpList Tryz.prog ops Q rest (a.put o.dst undef) (w0.alloc (.cells s.cs.toArray 244))):wpList Tryz.prog ops Q (o::rest) a (w0.alloc (.cells (Sh.cs Sh.zero).toArray 244)):=
 ja6 hgd _ x y ho w0 _ _ _ hx hy (jba s) (by rw [List.size_toArray,List.size_toArray,Sh.cs_len,Sh.cs_len]) (all_oneCell_toArray s.cs_one) h
end
section
end
section
set_option linter.unusedSimpArgs false
theorem jas {P:Program}{ops:Array Oper}{rest:List Oper}{o:Oper}{a:Act}{w:World}{Q:Exit->Act->World->Prop}(hgd:Region.wanted o (yielded ops a.tmps)=true)(v:Value)(w':World)(hr:(execOp a.eval o).run P w= .ok (.value v) w')(hk:wpList P ops Q rest (a.put o.dst v) w'):wpList P ops Q (o::rest) a w:=by
 unfold wpList;rw [if_pos hgd]
 left
 unfold Oper.wp;rw [hr];exact hk
end
end
section
open Go.RowKit
open Go.RowKit
section
structure Gr (w:World)(A:Option Addr)(n c:Nat)(rs:List (List UInt8)):Prop where
 ex:∃vs:List Value,Sl w 1 A n c vs∧∀(i:Nat) (r:List UInt8),rs[i]? =some r->∃A' c',vs[i]? =some (Value.slice A' r.length c')∧Sl w 1 A' r.length c' (cells r)
 len:rs.length=n
section
variable {w w':World}{A:Option Addr}{n c:Nat}{rs:List (List UInt8)}
theorem Gr.later (h:Gr w A n c rs)(hb:Below w.heap.size w w'):Gr w' A n c rs:=by
 obtain⟨vs,hs,hr⟩:=h.ex;refine⟨⟨vs,hs.below hb (Nat.le_refl _),λ i r hi=> ?_⟩,h.len⟩;obtain⟨A',c',h1,h2⟩:=hr i r hi;exact⟨A',c',h1,h2.below hb (Nat.le_refl _)⟩
theorem Gr.lim (h:Gr w A n c rs):n<=maxLen:=by
 obtain⟨vs,hs,_⟩:=h.ex;exact hs.lim
theorem Gr.capLe (h:Gr w A n c rs):n<=c∧c<=maxLen:=by
 obtain⟨vs,hs,_⟩:=h.ex;exact⟨hs.cap,hs.top⟩
theorem Gr.at_ (h:Gr w A n c rs)(h0:0<n):∃b o,A=some ⟨b,o,none⟩∧∀(i:Nat) (r:List UInt8),rs[i]? =some r->∃A' c',w.cell? ⟨b,o+i,none⟩=some (.slice A' r.length c')∧Sl w 1 A' r.length c' (cells r):=by
 obtain⟨vs,hs,hr⟩:=h.ex;obtain⟨b,o,e,hc⟩:=hs.at_ h0;refine⟨b,o,e,λ i r hi=> ?_⟩;obtain⟨A',c',h1,h2⟩:=hr i r hi;exact⟨A',c',hc i _ h1,h2⟩
theorem Gr.get (h:Gr w A n c rs){i:Nat}(hi:i<n):rs[i]? =some (rs.getD i []):=by
 rw [List.getD_eq_getElem?_getD,List.getElem?_eq_getElem (by rw [h.len];exact hi),Option.getD_some]
theorem Gr.sub (h:Gr w A n c rs)(lo hi c':Nat)(h1:lo<=hi)(h2:hi<=n)(hc:hi-lo<=c')(hc':c' <=maxLen):Gr w (A.map (·.add lo)) (hi-lo) c' ((rs.drop lo).take (hi-lo)):=by
 obtain⟨vs,hs,hr⟩:=h.ex;have:=hs.sub lo hi c' h1 h2 hc hc';rw [Nat.mul_one,Nat.mul_one] at this;refine⟨⟨_,this,λ i r hir=> ?_⟩,by rw [List.length_take,List.length_drop,h.len];omega⟩;rw [List.getElem?_take] at hir
 split at hir
 ·rename_i hlt
  rw [List.getElem?_drop] at hir;obtain⟨A',c'',e1,e2⟩:=hr _ _ hir;exact⟨A',c'',by rw [List.getElem?_take,if_pos hlt,List.getElem?_drop];exact e1,e2⟩
 ·cases hir
theorem Gr.one {g:Nat}{r:List UInt8}{A':Option Addr}{c':Nat}(hg:w.heap[g]? =some (.cells #[.slice A' r.length c'] 105 (0,0)))(hs:Sl w 1 A' r.length c' (cells r)):Gr w (some ⟨g,0,none⟩) 1 1 [r]:=by
 refine⟨⟨[.slice A' r.length c'],⟨rfl,Nat.le_refl _,by decide,λ j u hu=>⟨g,0,rfl, ?_⟩⟩,λ i x hx=> ?_⟩,rfl⟩
 ·rw [cell_of_row _ _ _ _ _ _ hg,Nat.zero_add]
  simpa using hu
 ·rcases i with _|i
  ·simp at hx
   subst hx;exact⟨A',c',rfl,hs⟩
  ·simp at hx
end
def Oth (A:Option Addr)(A':Option Addr)(n:Nat):Prop:=∀b o o',0<n->A' =some ⟨b,o,none⟩->A≠some ⟨b,o',none⟩
def Blk (A:Option Addr):Nat->Prop:=λ k=>∃o,A=some ⟨k,o,Option.none⟩
theorem Sl.oth {w w':World}{A A':Option Addr}{n c:Nat}{xs:List Value}(h:Sl w 1 A' n c xs)(hf:Fr (Blk A) w w')(ho:Oth A A' n):Sl w' 1 A' n c xs:=
 h.fr hf λ b o hn hA ⟨o',hk⟩=>ho b o o' hn hA hk
structure Gg (w:World)(B:Nat)(A:Option Addr)(n c:Nat)(rs:List (List UInt8)):Prop where
 ex:∃vs:List Value,Own w B 105 1 A n c vs∧∀(i:Nat) (r:List UInt8),rs[i]? =some r->∃A' c',vs[i]? =some (Value.slice A' r.length c')∧Sl w 1 A' r.length c' (cells r)∧Oth A A' r.length
 len:rs.length=n
 own:∀b o,A=some ⟨b,o,none⟩->B<=b∧b<w.heap.size
theorem Gg.gr {w:World}{B:Nat}{A:Option Addr}{n c:Nat}{rs:List (List UInt8)}(h:Gg w B A n c rs):Gr w A n c rs:=by
 obtain⟨vs,hs,hr⟩:=h.ex;refine⟨⟨vs,hs.sl,λ i r hi=> ?_⟩,h.len⟩;obtain⟨A',c',h1,h2,_⟩:=hr i r hi;exact⟨A',c',h1,h2⟩
theorem Gg.later {w w':World}{B:Nat}{A:Option Addr}{n c:Nat}{rs:List (List UInt8)}(h:Gg w B A n c rs)(hb:Below w.heap.size w w'):Gg w' B A n c rs:=by
 obtain⟨vs,hs,hr⟩:=h.ex;refine⟨⟨vs,hs.below hb,λ i r hi=> ?_⟩,h.len,λ b o e=>⟨(h.own b o e).1,Nat.lt_of_lt_of_le (h.own b o e).2 hb.size⟩⟩;obtain⟨A',c',h1,h2,h3⟩:=hr i r hi;exact⟨A',c',h1,h2.below hb (Nat.le_refl _),h3⟩
theorem Gg.nil (w:World)(B:Nat):Gg w B none 0 0 []:=⟨⟨[],Own.full (Sl.nil w 1 0 (by decide)),λ i r h=>by simp at h⟩,rfl,λ b o e=>by cases e⟩
theorem jcG {w:World}{B size n c:Nat}{e:TypeId}{A:Option Addr}{xs:List Value}{P:Program}(t tx ty:TypeId)(i:TypeInfo)(z:Value)(bytes:Nat)(ht:P.underlying t=some (.slice e))(hi:P.info? e=some i)(hz:i.zero=some z)
  (hsize:i.size=size)(hby:i.bytes=bytes)(hzs:z.cells.size=size)(hsz:0<size)(h:Own w B e size A n c xs)(hB:B<=w.heap.size)(hA:∀b o,A=some ⟨b,o,none⟩->B<=b∧b<w.heap.size)
  (x:Value)(m:Nat)(ys:List Value)(hs:Src P size tx x m ys w)(h63:n+m<=maxLen)(hbytes:(n+m)*bytes<=140737488355328):
  ∃A' c' w',(Builtin.append_ #[t,tx] ty #[.slice A n c,x]).run P w= .ok (.slice A' (n+m) c') w' ∧Own w' B e size A' (n+m) c' (xs++ys)∧Fr (Blk A) w w' ∧(A' =A∨A' =some ⟨w.heap.size,0,none⟩)∧(∀b o,A' =some ⟨b,o,none⟩->B<=b∧b<w'.heap.size):=by
 subst hsize;subst hby
 by_cases hm:m=0
 ·subst hm
  have hy:ys= []:=List.eq_nil_of_length_eq_zero (by simpa using hs.newsLen);subst hy;exact⟨A,c,w,run_append_nothing w t tx ty e i ht hi A n c h.sl.cap x hs,by simpa using h,Fr.refl _ _, .inl rfl,hA⟩
 by_cases hroom:n+m<=c
 ·rcases h.own with rfl|ho
  ·omega
  obtain⟨hl,hv⟩:=ho
  rcases hv with ⟨hv,_⟩|⟨g,cap,cur,hv,hbg,hg,hnc,hcm,hcs,htake⟩
  ·injection hv with _ h1 h2
   omega
  injection hv with hA' _ hc
  subst hA';subst hc;have hfit:n*i.size+ys.length<=cur.size:=by rw [hs.newsLen,hcs,<-Nat.add_mul];exact Nat.mul_le_mul_right _ hroom
  have hr:=run_append_room_src (P:=P) w t tx ty e i ht hi g 0 n c x m ys hs hroom (λ j hj=>by simp [World.cell?,hg];omega) (λ j hj=>by simp [World.frozen?,hg]);rw [Nat.zero_add,ja8 P hg hfit hs.one] at hr;have hlen:(xs++ys).length=(n+m)*i.size:=by rw [List.length_append,hl,hs.newsLen,Nat.add_mul]
  have hown:(w.setRow g (cur.toList.take (n*i.size)++ys++cur.toList.drop (n*i.size+ys.length)).toArray).ownsRow B e i.size (.slice (some ⟨g,0,none⟩) (n+m) c) (n+m) (xs++ys):=by
   refine⟨hlen, .inr ⟨g,c,_,rfl,hbg,setRow_heap w g cur _ e _ hg,hroom,hcm, ?_, ?_⟩⟩
   ·simp only [List.size_toArray,List.length_append,List.length_take,List.length_drop,Array.length_toList]
    omega
   ·rw [htake,<-hlen]
    exact List.take_left
  refine⟨some ⟨g,0,none⟩,c,_,hr,⟨⟨hlen,hroom,hcm,λ j u hu=>⟨g,0,rfl, ?_⟩⟩, .inr hown⟩,⟨rfl,rfl,rfl,by simp,λ k hk hnk=>setRow_other w g k _ (λ e=>hnk ⟨0,by rw [e]⟩)⟩, .inl rfl,λ b o e=>⟨(hA b o e).1,by simpa using (hA b o e).2⟩⟩;have:=hown.cells (g:=g) rfl j u hu
  rwa [show (⟨g,0,none⟩:Addr).add j=⟨g,0+j,none⟩ from by unfold Addr.add;split<;>simp_all] at this
 ·have hc:c<n+m:=by omega
  have hr:=run_append_grow_src (P:=P) w t tx ty e i z ht hi hz A n c xs (h.sl.drew.firstCells) x m ys hs hc (by unfold maxLen at h63;omega) (growslice_fits hc hbytes);have hge:=grownCap_ge w (n+m) c e;have hcm:grownCap w (n+m) c e<=maxLen:=grownCap_le_maxLen w (n+m) c e h63;have hlen:(xs++ys).length=(n+m)*i.size:=by rw [List.length_append,h.sl.len,hs.newsLen,Nat.add_mul]
  have hown:(w.drew.alloc (.cells ((xs++ys).toArray++Builtin.zeroCells z.cells (grownCap w (n+m) c e-(n+m))) e)).ownsRow B e i.size
    (.slice (some ⟨w.heap.size,0,none⟩) (n+m) (grownCap w (n+m) c e)) (n+m) (xs++ys):=by
   refine⟨hlen, .inr ⟨w.heap.size,_,_,rfl,hB,heap_alloc_new w.drew _,hge,hcm, ?_, ?_⟩⟩
   ·simp only [Array.size_append,List.size_toArray,size_zeroCells,hzs,hlen,<-Nat.add_mul]
    congr 1
    omega
   ·simp only [Array.toList_append]
    rw [<-hlen];exact List.take_left
  refine⟨_,_,_,hr,⟨⟨hlen,hge,hcm,λ j u hu=>⟨w.heap.size,0,rfl, ?_⟩⟩, .inr hown⟩,Fr.of_below ((Below.drew (Below.refl _ _)).alloc (Nat.le_refl _) _), .inr rfl,λ b o e=> ?_⟩
  ·have:=hown.cells (g:=w.heap.size) rfl j u hu
   rwa [show (⟨w.heap.size,0,none⟩:Addr).add j=⟨w.heap.size,0+j,none⟩ from by unfold Addr.add;split<;>simp_all] at this
  ·injection e with e
   injection e with e _
   subst e;exact⟨hB,by simp⟩
theorem jh8 {vs:List Value}(h:∀v∈vs,∃A n c,v=Value.slice A n c):∀u∈vs,u.oneCell' =true:=by
 intro u hu;obtain⟨_,_,_,rfl⟩:=h u hu
 rfl
theorem jgv {w:World}{A:Option Addr}{n c:Nat}{vs:List Value}{rs:List (List UInt8)}(hs:Sl w 1 A n c vs)(hl:rs.length=n)(h:∀(i:Nat) (r:List UInt8),rs[i]? =some r->∃A' c',vs[i]? =some (Value.slice A' r.length c')∧Sl w 1 A' r.length c' (cells r)):∀v∈vs,∃A n c,v=Value.slice A n c:=by
 intro v hv;obtain⟨i,hi,rfl⟩:=List.mem_iff_getElem.1 hv;have hls:=hs.len;rw [Nat.mul_one] at hls;obtain⟨A',c',e,_⟩:=h i (rs[i]'(by omega)) (List.getElem?_eq_getElem (by omega));rw [List.getElem?_eq_getElem hi] at e;injection e with e
 exact⟨_,_,_,e⟩
structure GrV (w:World)(A:Option Addr)(n c:Nat)(rs:List (List UInt8))(vs:List Value):Prop where
 sl:Sl w 1 A n c vs
 rows:∀(i:Nat) (r:List UInt8),rs[i]? =some r->∃A' c',vs[i]? =some (Value.slice A' r.length c')∧Sl w 1 A' r.length c' (cells r)
 len:rs.length=n
theorem GrV.gr {w:World}{A:Option Addr}{n c:Nat}{rs:List (List UInt8)}{vs:List Value}(h:GrV w A n c rs vs):Gr w A n c rs:=⟨⟨vs,h.sl,h.rows⟩,h.len⟩
theorem GrV.later {w w':World}{A:Option Addr}{n c:Nat}{rs:List (List UInt8)}{vs:List Value}(h:GrV w A n c rs vs)(hb:Below w.heap.size w w'):GrV w' A n c rs vs:=
 ⟨h.sl.below hb (Nat.le_refl _),λ i r hi=>by
  obtain⟨A',c',h1,h2⟩:=h.rows i r hi;exact⟨A',c',h1,h2.below hb (Nat.le_refl _)⟩,h.len⟩
structure GgV (w:World)(B:Nat)(A:Option Addr)(n c:Nat)(rs:List (List UInt8))(vs:List Value):Prop where
 own:Own w B 105 1 A n c vs
 rows:∀(i:Nat) (r:List UInt8),rs[i]? =some r->∃A' c',vs[i]? =some (Value.slice A' r.length c')∧Sl w 1 A' r.length c' (cells r)∧Oth A A' r.length
 len:rs.length=n
 blk:∀b o,A=some ⟨b,o,none⟩->B<=b∧b<w.heap.size
theorem GgV.gg {w:World}{B:Nat}{A:Option Addr}{n c:Nat}{rs:List (List UInt8)}{vs:List Value}(h:GgV w B A n c rs vs):Gg w B A n c rs:=⟨⟨vs,h.own,h.rows⟩,h.len,h.blk⟩
theorem GgV.grV {w:World}{B:Nat}{A:Option Addr}{n c:Nat}{rs:List (List UInt8)}{vs:List Value}(h:GgV w B A n c rs vs):GrV w A n c rs vs:=
 ⟨h.own.sl,λ i r hi=>by
  obtain⟨A',c',h1,h2,_⟩:=h.rows i r hi;exact⟨A',c',h1,h2⟩,h.len⟩
theorem GgV.later {w w':World}{B:Nat}{A:Option Addr}{n c:Nat}{rs:List (List UInt8)}{vs:List Value}(h:GgV w B A n c rs vs)(hb:Below w.heap.size w w'):GgV w' B A n c rs vs:=
 ⟨h.own.below hb,λ i r hi=>by
  obtain⟨A',c',h1,h2,h3⟩:=h.rows i r hi;exact⟨A',c',h1,h2.below hb (Nat.le_refl _),h3⟩,h.len,λ b o e=>⟨(h.blk b o e).1,Nat.lt_of_lt_of_le (h.blk b o e).2 hb.size⟩⟩
theorem GgV.made0 (w:World)(k:Nat)(hk:k<=maxLen):GgV (w.alloc (.cells (madeCells #[.slice none 0 0] k) 105)) w.heap.size (some ⟨w.heap.size,0,none⟩) 0 k [] []:=by
 refine⟨⟨Sl.empty _ 1 _ k hk, .inr ⟨by simp, .inr ⟨w.heap.size,k,_,rfl,Nat.le_refl _,heap_alloc_new w _,Nat.zero_le _,hk, ?_,by simp⟩⟩⟩,λ i r h=>by simp at h,rfl,λ b o e=> ?_⟩
 ·rw [size_madeCells,Nat.mul_one]
 ·injection e with e
  injection e with e _
  subst e;exact⟨Nat.le_refl _,by simp⟩
theorem jcN {w:World}{B n c:Nat}{A:Option Addr}{rs:List (List UInt8)}{vs:List Value}{ops:Array Oper}{rest:List Oper}{o:Oper}{a:Act}{Q:Exit->Act->World->Prop}(hgd:o.guard=none)(s x:Operand)
  (ho:o.op= .call {callee:= .builtin .append,args:= #[s,x],argTypes:= #[101,101]})
  (hv:a.eval s= .slice A n c)(h:GgV w B A n c rs vs)(hB:B<=w.heap.size)
  (A2:Option Addr)(m c2:Nat)(ys:List (List UInt8))(vs2:List Value)(hx:a.eval x= .slice A2 m c2)(hs:GrV w A2 m c2 ys vs2)(h40:n+m<=1048576)
  (hfar:∀(i:Nat) (r:List UInt8) (A':Option Addr) (c':Nat),ys[i]? =some r->vs2[i]? =some (Value.slice A' r.length c')->Oth A A' r.length)
  (hk:∀A' c' w',GgV w' B A' (n+m) c' (rs++ys) (vs++vs2)->Below B w w' ->w.heap.size<=w'.heap.size->Fr (Blk A) w w' ->wpList Tryz.prog ops Q rest (a.put o.dst (.slice A' (n+m) c')) w'):wpList Tryz.prog ops Q (o::rest) a w:=by
 obtain⟨i0,hi,hz0,hz1,hz2⟩:=info_parts jgH;have hown:=h.own;have hrs:=h.rows;have hsl2:=hs.sl;have hrs2:=hs.rows;have hone:=jh8 (jgv hsl2 hs.len hrs2);obtain⟨A',c',w',hr,h2,hfr,hA',hown'⟩:=jcG (P:=Tryz.prog) 101 101 o.type i0 (.slice none 0 0) 24 Tryz.underlying101 hi hz0 hz1 hz2 rfl (by decide) hown hB h.blk (.slice A2 m c2) m vs2 (hsl2.src Tryz.underlying101 (by decide) hone) (by unfold maxLen;omega) (by omega);refine wpList_plain hgd λ _ hK=> ?_
 unfold Oper.wp execOp;simp only [ho,resolve,invoke,builtin,Sem.run_bind,Sem.run_pure,Result.andThen_ok,List.map_toArray,List.map_cons,List.map_nil,hv,hx,hr];refine hK _ _ (hk A' c' w' ⟨h2,λ i r hir=> ?_,by rw [List.length_append,h.len,hs.len],hown'⟩ (hfr.below hB (λ k ⟨o,e⟩=>(h.blk k o e).1)) hfr.size hfr);have hvl:=hown.sl.len;rw [Nat.mul_one] at hvl;have new:∀A'' c'',Sl w 1 A'' r.length c'' (cells r)->Oth A A'' r.length->Sl w' 1 A'' r.length c'' (cells r)∧Oth A' A'' r.length:=by
  intro A'' c'' hsr hot;refine⟨hsr.oth hfr hot,λ b o o' hn e e' => ?_⟩
  rcases hA' with rfl|rfl
  ·exact hot b o o' hn e e'
  ·injection e' with e'
   injection e' with e' _
   have:=hsr.lt (by decide) hn e;omega
 rcases Nat.lt_or_ge i n with hlt|hge
 ·rw [List.getElem?_append_left (by rw [h.len];exact hlt)] at hir
  obtain⟨A'',c'',e1,e2,e3⟩:=hrs i r hir;exact⟨A'',c'',by rw [List.getElem?_append_left (by rw [hvl];exact hlt)];exact e1,new A'' c'' e2 e3⟩
 ·rw [List.getElem?_append_right (by rw [h.len];exact hge),h.len] at hir
  obtain⟨A'',c'',e1,e2⟩:=hrs2 (i-n) r hir;exact⟨A'',c'',by rw [List.getElem?_append_right (by rw [hvl];exact hge),hvl];exact e1,new A'' c'' e2 (hfar (i-n) r A'' c'' hir e1)⟩
structure Sep (w:World)(B H:Nat)(f:Nat->Option Value)(rs:List (List UInt8)):Prop where
 row:∀(i:Nat) (r:List UInt8),rs[i]? =some r->0<r.length->∃g c,f i=some (Value.slice (some ⟨g,0,none⟩) r.length c)∧g<H∧Mine w B 5 (some ⟨g,0,none⟩) r.length (cells r)
 apart:∀(i j g n n' c c':Nat) (r s:List UInt8),i<j->rs[i]? =some r->rs[j]? =some s->0<r.length->0<s.length->f i=some (Value.slice (some ⟨g,0,none⟩) n c)->f j=some (Value.slice (some ⟨g,0,none⟩) n' c')->False
section
variable {w w':World}{B H:Nat}{f:Nat->Option Value}{rs:List (List UInt8)}
theorem Sep.nil (w:World)(B H:Nat)(f:Nat->Option Value):Sep w B H f []:=⟨λ i r h=>by simp at h,λ i j g n n' c c' r s _ h=>by simp at h⟩
theorem Sep.later (h:Sep w B H f rs)(hb:Below w.heap.size w w'):Sep w' B H f rs:=
 ⟨λ i r hi hr=>by
  obtain⟨g,c,h1,h2,h3⟩:=h.row i r hi hr;exact⟨g,c,h1,h2,h3.later hb⟩,h.apart⟩
theorem Sep.up {H':Nat}(h:Sep w B H f rs)(hH:H<=H'):Sep w B H' f rs:=
 ⟨λ i r hi hr=>by
  obtain⟨g,c,h1,h2,h3⟩:=h.row i r hi hr;exact⟨g,c,h1,Nat.lt_of_lt_of_le h2 hH,h3⟩,h.apart⟩
theorem Sep.lower {B':Nat}(h:Sep w B H f rs)(hB:B' <=B):Sep w B' H f rs:=
 ⟨λ i r hi hr=>by
  obtain⟨g,c,h1,h2,h3⟩:=h.row i r hi hr;exact⟨g,c,h1,h2,h3.lower hB⟩,h.apart⟩
theorem Sep.frS {S:Nat->Prop}(h:Sep w B H f rs)(hf:Fr S w w')(hS:∀(i:Nat) (r:List UInt8) (g n c:Nat),rs[i]? =some r->0<r.length->f i=some (Value.slice (some ⟨g,0,none⟩) n c)->¬S g):Sep w' B H f rs:=
 ⟨λ i r hi hr=>by
  obtain⟨g,c,h1,h2,h3⟩:=h.row i r hi hr;refine⟨g,c,h1,h2,λ hn=> ?_⟩;obtain⟨g',cur,e,hB,hg,hs,ht⟩:=h3 hn;injection e with e
  injection e with e _
  subst e;exact⟨g,cur,rfl,hB,hf.row_some hg (hS i r g r.length c hi hr h1),hs,ht⟩,h.apart⟩
theorem Sep.one {r:List UInt8}{A:Option Addr}{c:Nat}(h:Mine w B 5 A r.length (cells r)):Sep w B w.heap.size (λ _=>some (.slice A r.length c)) [r]:=
 ⟨λ i x hi hr=>by
  rcases i with _|i
  ·simp at hi
   subst hi;have h0:=h;obtain⟨g,cur,e,hB,hg,_⟩:=h hr;subst e;exact⟨g,c,rfl,block_lt hg,h0⟩
  ·simp at hi,λ i j g n n' c c' r' s hij hi hj=>by
  rcases j with _|j
  ·omega
  ·simp at hj⟩
theorem Sep.app {B0 H0 B2 H2:Nat}{f2 f':Nat->Option Value}{ps:List (List UInt8)}(h:Sep w B H f rs)(h2:Sep w B2 H2 f2 ps)(hd:H<=B2∨H2<=B)(b1:B0<=B)(b2:B0<=B2)(k1:H<=H0)(k2:H2<=H0)
  (e1:∀i,i<rs.length->f' i=f i)(e2:∀i,i<ps.length->f' (rs.length+i)=f2 i):Sep w B0 H0 f' (rs++ps):=by
 have inL:∀{i:Nat} {r:List UInt8},rs[i]? =some r->i<rs.length:=λ {i r} hi=>by
  rcases Nat.lt_or_ge i rs.length with h' |h'
  ·exact h'
  ·rw [List.getElem?_eq_none h'] at hi
   cases hi
 have inR:∀{i:Nat} {r:List UInt8},ps[i]? =some r->i<ps.length:=λ {i r} hi=>by
  rcases Nat.lt_or_ge i ps.length with h' |h'
  ·exact h'
  ·rw [List.getElem?_eq_none h'] at hi
   cases hi
 refine⟨λ i r hi hr=> ?_,λ i j g n n' c c' r s hij hi hj hr hs hfi hfj=> ?_⟩
 ·rcases Nat.lt_or_ge i rs.length with hl|hl
  ·rw [List.getElem?_append_left hl] at hi
   obtain⟨g,c,q1,q2,q3⟩:=h.row i r hi hr;exact⟨g,c,(e1 i hl).trans q1,Nat.lt_of_lt_of_le q2 k1,q3.lower b1⟩
  ·rw [List.getElem?_append_right hl] at hi
   obtain⟨g,c,q1,q2,q3⟩:=h2.row _ r hi hr;have:=e2 _ (inR hi);rw [show rs.length +(i-rs.length)=i from by omega] at this;exact⟨g,c,this.trans q1,Nat.lt_of_lt_of_le q2 k2,q3.lower b2⟩
 ·rcases Nat.lt_or_ge j rs.length with hl|hl
  ·rw [List.getElem?_append_left (by omega)] at hi
   rw [List.getElem?_append_left hl] at hj;exact h.apart i j g n n' c c' r s hij hi hj hr hs ((e1 i (by omega)).symm.trans hfi) ((e1 j hl).symm.trans hfj)
  ·rw [List.getElem?_append_right hl] at hj
   have e3:=e2 _ (inR hj);rw [show rs.length +(j-rs.length)=j from by omega] at e3;rw [e3] at hfj
   rcases Nat.lt_or_ge i rs.length with hl2|hl2
   ·rw [List.getElem?_append_left hl2] at hi
    rw [e1 i hl2] at hfi;obtain⟨g1,c1,q1,q2,q3⟩:=h.row i r hi hr;obtain⟨g2,c2,p1,p2,p3⟩:=h2.row _ s hj hs;rw [q1] at hfi;injection hfi with hfi;injection hfi with hfi;injection hfi with hfi;injection hfi with hfi
    rw [p1] at hfj;injection hfj with hfj;injection hfj with hfj;injection hfj with hfj;injection hfj with hfj
    obtain⟨y1,_,z1,zB,_⟩:=q3 hr;obtain⟨y2,_,z2,zB2,_⟩:=p3 hs;injection z1 with z1;injection z1 with z1
    injection z2 with z2;injection z2 with z2
    omega
   ·rw [List.getElem?_append_right hl2] at hi
    have e4:=e2 _ (inR hi);rw [show rs.length +(i-rs.length)=i from by omega] at e4;rw [e4] at hfi;exact h2.apart _ _ g n n' c c' r s (by omega) hi hj hr hs hfi hfj
theorem Sep.ge (h:Sep w B H f rs){i g n c:Nat}{r:List UInt8}(hi:rs[i]? =some r)(hr:0<r.length)(hf:f i=some (Value.slice (some ⟨g,0,none⟩) n c)):B<=g∧g<H:=by
 obtain⟨g1,c1,q1,q2,q3⟩:=h.row i r hi hr;obtain⟨y1,_,z1,zB,_⟩:=q3 hr;injection z1 with z1;injection z1 with z1
 rw [q1] at hf;injection hf with hf;injection hf with hf;injection hf with hf;injection hf with hf
 omega
end
structure Gm (w:World)(B:Nat)(A:Option Addr)(n c:Nat)(rs:List (List UInt8)):Prop where
 ex:∃vs:List Value,GrV w A n c rs vs∧Sep w B w.heap.size (λ i=>vs[i]?) rs∧∀(i:Nat) (r:List UInt8) (A':Option Addr) (c':Nat),rs[i]? =some r->vs[i]? =some (Value.slice A' r.length c')->Oth A A' r.length
section
variable {w w':World}{B n c:Nat}{A:Option Addr}{rs:List (List UInt8)}
theorem Gm.gr (h:Gm w B A n c rs):Gr w A n c rs:=by
 obtain⟨vs,h1,_⟩:=h.ex;exact h1.gr
theorem Gm.later (h:Gm w B A n c rs)(hb:Below w.heap.size w w'):Gm w' B A n c rs:=by
 obtain⟨vs,h1,h2,h3⟩:=h.ex;exact⟨⟨vs,h1.later hb,(h2.later hb).up hb.size,h3⟩⟩
theorem Gm.lower {B':Nat}(h:Gm w B A n c rs)(hB:B' <=B):Gm w B' A n c rs:=by
 obtain⟨vs,h1,h2,h3⟩:=h.ex;exact⟨⟨vs,h1,h2.lower hB,h3⟩⟩
end
structure Fil (w:World)(g m:Nat)(cur:Array Value)(rs:List (List UInt8)):Prop where
 row:w.heap[g]? =some (.cells cur 105 (0,0))
 size:cur.size=m
 le:rs.length<=m
 rows:∀(i:Nat) (r:List UInt8),rs[i]? =some r->∃A c,cur[i]? =some (Value.slice A r.length c)∧Sl w 1 A r.length c (cells r)∧∀b o,0<r.length->A=some ⟨b,o,none⟩->b≠g
section
variable {w w':World}{g m:Nat}{cur:Array Value}{rs:List (List UInt8)}
theorem Fil.made (w:World)(k:Nat):Fil (w.alloc (.cells (madeCells #[.slice none 0 0] k) 105)) w.heap.size k (madeCells #[.slice none 0 0] k) []:=
 ⟨heap_alloc_new w _,by rw [size_madeCells],Nat.zero_le _,λ i r h=>by simp at h⟩
theorem Fil.later (h:Fil w g m cur rs)(hb:Below w.heap.size w w'):Fil w' g m cur rs:=
 ⟨(hb.block _ (block_lt h.row)).trans h.row,h.size,h.le,λ i r hi=>by
  obtain⟨A,c,h1,h2,h3⟩:=h.rows i r hi;exact⟨A,c,h1,h2.below hb (Nat.le_refl _),h3⟩⟩
theorem Fil.free (h:Fil w g m cur rs)(i:Nat):w.frozen? ⟨g,i,none⟩=false:=frozen_of_row _ _ _ _ _ h.row
theorem Fil.has (h:Fil w g m cur rs){i:Nat}(hi:i<m):∃v,w.cell? ⟨g,i,none⟩=some v:=by
 rw [cell_of_row _ _ _ _ _ _ h.row];exact⟨_,Array.getElem?_eq_getElem (by rw [h.size];exact hi)⟩
theorem Fil.next (h:Fil w g m cur rs)(hf:Fr (λ k=>k=g) w w'){k:Nat}(hk:rs.length=k)(hkm:k<m){A:Option Addr}{c:Nat}{r:List UInt8}(hg:w'.heap[g]? =some (.cells (cur.setIfInBounds k (.slice A r.length c)) 105 (0,0)))(hs:Sl w' 1 A r.length c (cells r))(hA:∀b o,0<r.length->A=some ⟨b,o,none⟩->b≠g):
  Fil w' g m (cur.setIfInBounds k (.slice A r.length c)) (rs ++ [r]):=by
 refine⟨hg,by rw [Array.size_setIfInBounds];exact h.size,by rw [List.length_append,List.length_singleton];omega,λ i x hi=> ?_⟩
 rcases Nat.lt_or_ge i k with hlt|hge
 ·rw [List.getElem?_append_left (by omega)] at hi
  obtain⟨A',c',h1,h2,h3⟩:=h.rows i x hi;exact⟨A',c',by rw [Array.getElem?_setIfInBounds,if_neg (by omega)];exact h1,h2.fr hf (λ b o hn e hb=>h3 b o hn e hb),h3⟩
 ·rw [List.getElem?_append_right (by omega),hk] at hi
  obtain rfl:i=k:=by
   rcases Nat.lt_or_ge (i-k) 1 with h' |h'
   ·omega
   ·rw [List.getElem?_eq_none (by simpa using h')] at hi
    cases hi
  rw [Nat.sub_self] at hi;injection hi with hi
  subst hi;exact⟨A,c,by rw [Array.getElem?_setIfInBounds,if_pos rfl,if_pos (by rw [h.size];exact hkm)],hs,hA⟩
theorem Fil.grV (h:Fil w g m cur rs)(hl:rs.length=m)(hm:m<=maxLen):GrV w (some ⟨g,0,none⟩) m m rs cur.toList:=by
 refine⟨⟨by rw [Array.length_toList,h.size,Nat.mul_one],Nat.le_refl _,hm,λ j u hu=>⟨g,0,rfl, ?_⟩⟩,λ i r hi=> ?_,hl⟩
 ·rw [cell_of_row _ _ _ _ _ _ h.row,Nat.zero_add]
  simpa using hu
 ·obtain⟨A,c,h1,h2,_⟩:=h.rows i r hi
  exact⟨A,c,by simpa using h1,h2⟩
theorem Fil.gr (h:Fil w g m cur rs)(hl:rs.length=m)(hm:m<=maxLen):Gr w (some ⟨g,0,none⟩) m m rs:=by
 refine⟨⟨cur.toList,⟨by rw [Array.length_toList,h.size,Nat.mul_one],Nat.le_refl _,hm,λ j u hu=>⟨g,0,rfl, ?_⟩⟩,λ i r hi=> ?_⟩,hl⟩
 ·rw [cell_of_row _ _ _ _ _ _ h.row,Nat.zero_add]
  simpa using hu
 ·obtain⟨A,c,h1,h2,_⟩:=h.rows i r hi
  exact⟨A,c,by simpa using h1,h2⟩
end
theorem Fil.put {w w':World}{g m:Nat}{cur:Array Value}{rs:List (List UInt8)}(h:Fil w g m cur rs)(hf:Fr (λ k=>k=g) w w'){j:Nat}(hj:j<m){A:Option Addr}{c:Nat}{r:List UInt8}(hg:w'.heap[g]? =some (.cells (cur.setIfInBounds j (.slice A r.length c)) 105 (0,0)))(hs:Sl w' 1 A r.length c (cells r))(hA:∀b o,0<r.length->A=some ⟨b,o,none⟩->b≠g):
  Fil w' g m (cur.setIfInBounds j (.slice A r.length c)) (rs.set j r):=by
 refine⟨hg,by rw [Array.size_setIfInBounds];exact h.size,by rw [List.length_set];exact h.le,λ i x hi=> ?_⟩;rw [List.getElem?_set] at hi
 split at hi
 ·rename_i hij
  subst hij
  split at hi
  ·injection hi with hi
   subst hi;exact⟨A,c,by rw [Array.getElem?_setIfInBounds,if_pos rfl,if_pos (by rw [h.size];exact hj)],hs,hA⟩
  ·cases hi
 ·rename_i hij
  obtain⟨A',c',h1,h2,h3⟩:=h.rows i x hi;exact⟨A',c',by rw [Array.getElem?_setIfInBounds,if_neg hij];exact h1,h2.fr hf (λ b o hn e hb=>h3 b o hn e hb),h3⟩
theorem jnU (z:Int)(k:Nat)(hz:z=(k:Int))(hk:k<=1048576)(w:World):
  (Instr.makeSlice 101 (.int .i64 0) (.int .i64 z)).run Tryz.prog w= .ok (.slice (some ⟨w.heap.size,0,none⟩) 0 k) (w.alloc (.cells (madeCells #[.slice none 0 0] k) 105)):=by
 obtain⟨i0,hi,hz0,hz1,hz2⟩:=info_parts jgH;subst hz;have h:=run_make (P:=Tryz.prog) w 101 105 i0 (.slice none 0 0) Tryz.underlying101 hi hz0 .i64 .i64 (0:Int) (k:Int) (by omega) (by omega) (by rw [hz2];omega) (by omega);rw [hz1,Nat.mul_one,Int.toNat_natCast] at h;exact h
structure Enc (w0:World)(g m:Nat)(cur:Array Value)(ps:List (List UInt8))(w:World):Prop where
 bel:Below w0.heap.size w0 w
 fil:Fil w g m cur ps
 new:w0.heap.size<=g
theorem Enc.later {w0 w w':World}{g m:Nat}{cur:Array Value}{ps:List (List UInt8)}(h:Enc w0 g m cur ps w)(hb:Below w.heap.size w w'):Enc w0 g m cur ps w':=⟨h.bel.trans (hb.mono h.bel.size),h.fil.later hb,h.new⟩
theorem Enc.store {w0 w w':World}{g m:Nat}{cur:Array Value}{ps:List (List UInt8)}(h:Enc w0 g m cur ps w){k:Nat}(hk:ps.length=k)(hkm:k<m){A:Option Addr}{c:Nat}{r:List UInt8}(hf:Fr (λ k=>k=g) w w')
  (hg:w'.heap[g]? =some (.cells (cur.setIfInBounds k (.slice A r.length c)) 105 (0,0)))(hs:Sl w 1 A r.length c (cells r))(hA:∀b o,0<r.length->A=some ⟨b,o,none⟩->b≠g):Enc w0 g m (cur.setIfInBounds k (.slice A r.length c)) (ps ++ [r]) w':=
 ⟨h.bel.trans (hf.below h.bel.size (λ k hk=>by have hk:k=g:=hk;have:=h.new;omega)),h.fil.next hf hk hkm hg (hs.fr hf λ b o hn e hk=>hA b o hn e hk) hA,h.new⟩
structure EncS (w0:World)(g m:Nat)(cur:Array Value)(ps:List (List UInt8))(w:World):Prop where
 enc:Enc w0 g m cur ps w
 sep:Sep w (g+1) w.heap.size (λ i=>cur[i]?) ps
theorem EncS.bel {w0 w:World}{g m:Nat}{cur:Array Value}{ps:List (List UInt8)}(h:EncS w0 g m cur ps w):Below w0.heap.size w0 w:=h.enc.bel
theorem EncS.fil {w0 w:World}{g m:Nat}{cur:Array Value}{ps:List (List UInt8)}(h:EncS w0 g m cur ps w):Fil w g m cur ps:=h.enc.fil
theorem EncS.later {w0 w w':World}{g m:Nat}{cur:Array Value}{ps:List (List UInt8)}(h:EncS w0 g m cur ps w)(hb:Below w.heap.size w w'):EncS w0 g m cur ps w':=⟨h.enc.later hb,(h.sep.later hb).up hb.size⟩
theorem EncS.store {w0 w w':World}{g m:Nat}{cur:Array Value}{ps:List (List UInt8)}(h:EncS w0 g m cur ps w){k:Nat}(hk:ps.length=k)(hkm:k<m){A:Option Addr}{c:Nat}{r:List UInt8}(hf:Fr (λ k=>k=g) w w')
  (hg:w'.heap[g]? =some (.cells (cur.setIfInBounds k (.slice A r.length c)) 105 (0,0)))(hs:Sl w 1 A r.length c (cells r))(hA:∀b o,0<r.length->A=some ⟨b,o,none⟩->b≠g)
  {H:Nat}(hq:Sep w (g+1) H (λ i=>cur[i]?) ps)(hgH:g+1<=H)(hHw:H<=w.heap.size)(hm:Mine w H 5 A r.length (cells r)):EncS w0 g m (cur.setIfInBounds k (.slice A r.length c)) (ps ++ [r]) w':=by
 have s1:Sep w (g+1) w.heap.size (λ i=>(cur.setIfInBounds k (.slice A r.length c))[i]?) (ps ++ [r]):=by
  refine hq.app (Sep.one (c:=c) hm) (.inl (Nat.le_refl _)) (Nat.le_refl _) hgH hHw (Nat.le_refl _) (λ i hi=> ?_) λ i hi=> ?_
  ·show (cur.setIfInBounds k (.slice A r.length c))[i]? =cur[i]?
   rw [Array.getElem?_setIfInBounds,if_neg (by omega)]
  ·have hi:i<1:=hi
   obtain rfl:i=0:=by omega
   show (cur.setIfInBounds k (.slice A r.length c))[ps.length+0]? =_
   rw [Array.getElem?_setIfInBounds,if_pos (by omega),if_pos (by rw [h.fil.size];omega)]
 exact⟨h.enc.store hk hkm hf hg hs hA,(s1.frS hf λ i x g' n' c' hi hx e hk=>by
  have:=(s1.ge hi hx e).1;have hk:g' =g:=hk;omega).up hf.size⟩
theorem EncS.gm {w0 w:World}{g m:Nat}{cur:Array Value}{ps:List (List UInt8)}(h:EncS w0 g m cur ps w)(hl:ps.length=m)(hm:m<=maxLen):Gm w w0.heap.size (some ⟨g,0,none⟩) m m ps:=by
 refine⟨⟨cur.toList,h.fil.grV hl hm, ?_,λ i r A' c' hi hv=> ?_⟩⟩
 ·have:=h.sep.lower (B':=w0.heap.size) (by have:=h.enc.new;omega)
  have e:(λ (i:Nat)=>cur.toList[i]?)=λ (i:Nat)=>cur[i]? :=by funext i;simp
  rw [e];exact this
 ·intro b o o' hn e1 e2
  obtain⟨A2,c2,h1,_,h3⟩:=h.fil.rows i r hi;rw [Array.getElem?_toList] at hv;rw [hv] at h1;injection h1 with h1
  injection h1 with h1
  injection e2 with e2
  injection e2 with e2
  subst e2;exact h3 g o hn (h1.symm.trans e1) rfl
end
section
end
end
end Go.Proofs.YtmhejbihdghhaaaGreatDoor

/-
  Layer 13, as plain data: the rows that are read of a stripe's good shards ('got'), what decodes of them, and how many they are
-/
import Derived.Test.YtmhejbihdghhaaaGreatDoorQcan
import Derived.Test.YtmhejbihdghhaaaGreatDoorHh
import Derived.Test.YtmhejbihdghhaaaGreatDoorGa
import Derived.Test.YtmhejbihdghhaaaGreatDoorLa
import Derived.Test.YtmhejbihdghhaaaGreatDoorQcag
import Derived.Maps.OwnOps
import Derived.Maps.Views
import Derived.Test.YtmhejbihdghhaaaGreatDoorHb
import Derived.Test.YtmhejbihdghhaaaGreatDoorQcab
import Derived.Deep.QuietTactic
import Derived.Deep.RegionHeld3
namespace Go.Proofs.YtmhejbihdghhaaaGreatDoor
set_option linter.unusedVariables false
open Go.RowKit Go.Proofs
open Go.RowKit Go.Proofs Go.Maps
open Go.RowKit Go.Proofs
open Go.RowKit Go.Proofs
open Go.RowKit Go.Proofs
open Go.RowKit Go.Proofs
open Go.RowKit Go.Proofs
open Go.RowKit Go.Proofs
open Go.RowKit Go.Proofs
set_option maxRecDepth 100000
set_option maxHeartbeats 3200000
section
def got (k n p:Nat)(b:List UInt8)(G:Nat->Bool):List (List UInt8):=(List.range n).map λ i=>if G (jaW n p i)=true then jfN k b i else []
section
variable {k m n p:Nat}{b:List UInt8}{G:Nat->Bool}
theorem jrb:(got k n p b G).length=n:=by simp [got]
theorem jql {i:Nat}(hi:i<n):(got k n p b G).getD i []=if G (jaW n p i)=true then jfN k b i else []:=by simp [got,hi]
theorem jpq (hk:1<=k):∀r∈got k n p b G,r.length<=44:=by
 intro r hr;obtain⟨i,_,rfl⟩:=List.mem_map.1 hr
 split
 ·rw [jaX hk];exact Nat.le_refl _
 ·exact Nat.zero_le _
theorem jno (hk:1<=k){i:Nat}(hi:i<n):0<((got k n p b G).getD i []).length↔G (jaW n p i)=true:=by
 rw [jql hi]
 by_cases h:G (jaW n p i)=true
 ·rw [if_pos h,jaX hk];simp [h]
 ·rw [if_neg h];simp [h]
theorem jhW (hk:1<=k):(jae (got k n p b G) n).length=cntG n G:=by
 rw [<-jia n p G];unfold jae cntG;rw [List.countP_eq_length_filter]
 congr 1
 refine List.filter_congr λ i hi=> ?_
 have h:=jno (k:=k) (p:=p) (b:=b) (G:=G) hk (List.mem_range.1 hi);rw [Bool.eq_iff_iff,decide_eq_true_iff];exact h
theorem jgY (hk:1<=k){a:Nat}(ha:a<(jae (got k n p b G) n).length):(got k n p b G).getD ((jae (got k n p b G) n).getD a 0) []=jfN k b ((jae (got k n p b G) n).getD a 0):=by
 have hl:=jc5 ha;have hg:=(jno hk hl).1 (jk5 ha);rw [jql hl,if_pos hg]
theorem jnp (hk:1<=k)(hG:k<=cntG (k+m) G):jaT k m (got k (k+m) p b G)=0:=by
 have he:=jhW (k:=k) (n:=k+m) (p:=p) (b:=b) (G:=G) hk;have hl:(got k (k+m) p b G).length=k+m:=jrb;have hlv:jd3 (got k (k+m) p b G)=true:=decide_eq_true λ a ha=>by
  rw [hl] at ha ⊢;rw [jgY hk ha,jgY hk (by omega),jaX hk,jaX hk]
 rw [jaT,if_neg (by rw [hl];simp),if_neg (by rw [hlv];decide),hl,if_neg (by omega)]
theorem jrc (hk:1<=k):((cutL b 44 k).getD 0 []).length=44:=by rw [jd2 _ _ _ _ (by omega),jaI]
theorem jhX:jbP (cutL b 44 k)=true:=by
 refine decide_eq_true λ j hj=> ?_
 rw [jaU] at hj;rw [jd2 _ _ _ _ hj,jd2 _ _ _ _ (by omega),jaI,jaI]
theorem jpr (hk:1<=k)(hG:k<=cntG (k+m) G){X:Mx}(hX:Alike k k (mm k X (facM k ((jae (got k (k+m) p b G) (k+m)).take k))) one):
  jdk k ((got k (k+m) p b G).getD ((jae (got k (k+m) p b G) (k+m)).getD 0 0) []).length (solD k X (got k (k+m) p b G) ((jae (got k (k+m) p b G) (k+m)).take k))=cutL b 44 k:=by
 have he:=jhW (k:=k) (n:=k+m) (p:=p) (b:=b) (G:=G) hk;rw [jgY hk (by omega),jaX hk];exact jmX (jaU _ _ _) jhX (jrc hk) hX λ a ha=>by
  rw [ja3 ha];exact jgY hk (by omega)
theorem jps {i:Nat}(hi:i<n):(allL k (cutL b 44 k) n)[i]? =some (jfN k b i):=by simp [allL,hi,jfN]
theorem jnq (h:b.length<=44*k):(cutL b 44 k).flatten.take b.length=b:=jpL b 44 k (by omega)
end
end
section
def jrd (v:Value):Option (DataW Value × List MemPlace):=some (.held v, [])
structure Mv (w:World)(M c:Nat)(f:Nat->Option Sh):Prop where
 ex:∃D:DataW Value,w.ownsMap Tryz.prog 3 jrd M c D∧Tidy D∧Maps.size D=c∧∀(i:Nat) (zd:DataW Value),D.atKey (.int .i64 (i:Int)) zd=(match f i with|some s=> .held s.v|none=>zd)
section
variable {w w':World}{M c:Nat}{f:Nat->Option Sh}
theorem Mv.lt (h:Mv w M c f):M<w.heap.size:=by
 obtain⟨D,h1,_⟩:=h.ex;exact h1.lt
theorem Mv.fr {S:Nat->Prop}(h:Mv w M c f)(hf:Fr S w w')(hb:¬S M):Mv w' M c f:=by
 obtain⟨D,⟨es,clock,h1,h2,h3,h4⟩,r⟩:=h.ex;have hl:M<w.heap.size:=h.lt;exact⟨D,⟨es,clock,(hf.block M hl hb).trans h1,h2,h3,h4⟩,r⟩
theorem Mv.later (h:Mv w M c f)(hb:Below w.heap.size w w'):Mv w' M c f:=h.fr (Fr.of_below hb:Fr (λ _=>False) w w') (λ h=>h)
theorem Mv.made (w:World):Mv (w.alloc (.map #[] 0)) w.heap.size 0 (λ _=>none):=⟨.map [],World.ownsMap_made _ _ _ _,tidy_empty,rfl,λ i zd=>rfl⟩
theorem jdV {a b:Value}(h:(DataW.held a:DataW Value)= .held b):a=b:=by injection h
theorem jhY (w:World):(zeroValue 244).run Tryz.prog w= .ok Sh.zero.v w:=jcn w
theorem Mv.len (h:Mv w M c f)(ty:TypeId):(Builtin.len_ #[249] ty #[.map (some M)]).run Tryz.prog w= .ok (.int .i64 (c:Int)) w:=by
 obtain⟨D,⟨es,clock,h1,h2,h3,h4⟩,_,hs,_⟩:=h.ex;have hr:=run_len_map (P:=Tryz.prog) (w:=w) 249 ty M es clock (by kernel_rfl) h1;have e:es.size=c:=by
  rw [<-hs,h4,Maps.size_eq,length_sorted,List.length_map,Array.length_toList]
 rw [e] at hr;exact hr
theorem Mv.look (h:Mv w M c f)(i:Nat)(hi:i<9223372036854775808):
  (Instr.lookup 249 (.map (some M)) (.int .i64 (i:Int)) true).run Tryz.prog w= .ok (match f i with|some s=> .tuple #[s.v, .bool true]|none=> .tuple #[Sh.zero.v, .bool false]) w:=by
 obtain⟨D,⟨es,clock,hb,F,hs,rfl⟩,_,_,h3⟩:=h.ex;have hkey:keyOf Tryz.prog 3 (.int .i64 (i:Int))=some (.int .i64 (i:Int)):=keyOf_int_mk Tryz.underlying3 (jmf (by omega))
 rcases Maps.fit_look true jj0 Tryz.underlying249 (jhY w) hb F hkey with ⟨hrun,_,hat⟩|⟨e0,y,_,_,hrun,hRv,hat,_⟩
 ·have h0:=(h3 i (.held (.bool false))).symm.trans (hat _)
  have h1:=(h3 i (.held (.bool true))).symm.trans (hat _)
  cases hq:f i with
  |none=>exact hrun
  |some s=>
   rw [hq] at h0 h1;have a:=jdV h0;have b:=jdV h1;rw [a] at b
   cases b
 ·have h0:=(h3 i (.held (.bool false))).symm.trans (hat _)
  have h1:=(h3 i (.held (.bool true))).symm.trans (hat _);have hy:y=(.held e0.val, []):=by
   unfold jrd at hRv;injection hRv with hRv
   exact hRv.symm
  rw [hy] at h0 h1
  cases hq:f i with
  |none=>
   rw [hq] at h0 h1;have a:=jdV h0;have b:=jdV h1;rw [<-a] at b
   cases b
  |some s=>
   rw [hq] at h0;have:=jdV h0;rw [<-this] at hrun;exact hrun
theorem Mv.upd (h:Mv w M c f)(i:Nat)(hi:i<9223372036854775808)(hf:f i=none)(hc:c<=100000)(s:Sh):
  ∃w',(Instr.mapUpdate 249 (.map (some M)) (.int .i64 (i:Int)) (.agg s.cs.toArray)).run Tryz.prog w= .ok () w' ∧Fr (λ b=>b=M) w w' ∧Mv w' M (c+1) (λ j=>if j=i then some s else f j):=by
 obtain⟨D,h1,h2,hs,h3⟩:=h.ex;have hkey:keyOf Tryz.prog 3 (.int .i64 (i:Int))=some (.int .i64 (i:Int)):=keyOf_int_mk Tryz.underlying3 (jmf (by omega));obtain⟨w',hrun,hown,hg⟩:=h1.update jj0 Tryz.underlying249 (by unfold maxLen;omega) hkey (show jrd (.agg s.cs.toArray)=some (.held s.v, []) from rfl);have hn:Maps.has D (.int .i64 (i:Int))=false:=has_false_of_atKey λ z=>by rw [h3,hf]
 refine⟨w',hrun,⟨hg.os,hg.tape,hg.output,hg.size,λ k hk hs=>hg.block k hk (λ e=>by injection e with e;exact hs e)⟩,⟨_,hown,h2.put (by trivial) _, ?_,λ j zd=> ?_⟩⟩
 ·rw [size_put h2,hn,hs]
  rfl
 ·by_cases he:j=i
  ·subst he
   rw [if_pos rfl,atKey_put_same h2.isMap (by trivial)]
  ·rw [if_neg he,atKey_put_other (by intro e;injection e with _ e;exact he (by omega)),h3]
end
end
section
theorem jpt {w:World}{B n c:Nat}{e:TypeId}{A:Option Addr}{xs:List Value}(h:w.ownsRow B e 1 (.slice A n c) n xs)(hn:0<n):∀b o,A=some ⟨b,o,none⟩->B<=b:=by
 intro b o hA;obtain⟨g,cur,hg,hB,_⟩:=Mine.of_own h hn;rw [hA] at hg;injection hg with hg
 injection hg with hg _
 omega
theorem jcL {w:World}{B n c:Nat}{A:Option Addr}{xs:List Value}{ops:Array Oper}{rest:List Oper}{o:Oper}{a:Act}{Q:Exit->Act->World->Prop}(hgd:o.guard=none)(s x:Operand)
  (ho:o.op= .call {callee:= .builtin .append,args:= #[s,x],argTypes:= #[105,105]})
  (hv:a.eval s= .slice A n c)(h:Own w B 5 1 A n c xs)(hB:B<=w.heap.size)(hlo:∀bb oo,0<n->A=some ⟨bb,oo,none⟩->B<=bb)
  (A2:Option Addr)(m c2:Nat)(ys:List UInt8)(hx:a.eval x= .slice A2 m c2)(hs:Sl w 1 A2 m c2 (cells ys))(h47:n+m<=140737488355328)
  (hk:∀A' c' w',Own w' B 5 1 A' (n+m) c' (xs++cells ys)->Below B w w' ->(∀bb oo,0<n+m->A' =some ⟨bb,oo,none⟩->B<=bb)->wpList Tryz.prog ops Q rest (a.put o.dst (.slice A' (n+m) c')) w'):wpList Tryz.prog ops Q (o::rest) a w:=by
 obtain⟨i0,hi,hz0,hz1,hz2⟩:=info_parts jbf;refine wpList_plain hgd λ K hK=> ?_
 have hsrc:=hs.src Tryz.underlying105 (by decide) (cells_one ys)
 by_cases hm:m=0
 ·subst hm
  have hy:ys= []:=by
   have:=hs.len;rw [jaa] at this;exact List.eq_nil_of_length_eq_zero (by omega)
  subst hy;have hr:=run_append_nothing w 105 105 o.type 5 i0 Tryz.underlying105 hi A n c h.sl.cap (.slice A2 0 c2) (by rw [hz1];exact hsrc);unfold Oper.wp execOp;simp only [ho,resolve,invoke,builtin,Sem.run_bind,Sem.run_pure,Result.andThen_ok,List.map_toArray,List.map_cons,List.map_nil,hv,hx,hr];exact hK _ _ (hk A c w (by rw [Nat.add_zero,show cells []= [] from rfl,List.append_nil];exact h) (Below.refl _ _) (by rw [Nat.add_zero];exact hlo))
 ·obtain⟨A',c',w',hr,h2,h3,h4⟩:=jaK (P:=Tryz.prog) 105 105 o.type i0 (.int .u8 0) 1 Tryz.underlying105 hi hz0 hz1 hz2 rfl (by decide) h hB (.slice A2 m c2) m (cells ys) hsrc (by unfold maxLen;omega) (by omega)
  unfold Oper.wp execOp;simp only [ho,resolve,invoke,builtin,Sem.run_bind,Sem.run_pure,Result.andThen_ok,List.map_toArray,List.map_cons,List.map_nil,hv,hx,hr];exact hK _ _ (hk A' c' w' h2 h3 (λ bb oo hn e=>jpt (h4 (by omega)) hn bb oo e))
theorem jnr (C k m F T:Nat)(A:Option Addr)(n c:Nat)(rs:List (List UInt8))(S:Int)(hS1: -9223372036854775808<=S)(hS2:S<9223372036854775808)(w:World)(h:Cod w C k m F T)(hg:Gr w A n c rs)(hW:∀r∈rs,r.length<=1048576):
  Calls Tryz.prog 156 #[.pointer (some ⟨C,0,none⟩), .slice A n c, .int .i64 S] w λ e w' =>Below w.heap.size w w' ∧
   (¬okJ rs (k:Int) S∧e= .returned (.tuple #[.slice none 0 0, .int .i64 2])∨okJ rs (k:Int) S∧∃A' n' c',e= .returned (.tuple #[.slice A' n' c', .int .i64 0])∧NewB w A' n' c' (rs.flatten.take S.toNat) w'):=by
 have hm:=jdJ C k m F T w h;have h3:=h.n255;have hk1:=h.k1;have hlim:=hg.lim;unfold maxLen at hlim;have H:=qH h;clear h;have Hg:=qH hg;clear hg;have ht:=λ u hu=>jhC (k:Int) (m:Int) A n c rs u hu
 by_cases hev:jca rs (k:Int)=true
 ·rw [hev] at ht
  have hnk:n=k:=by
   rw [jca,Bool.and_eq_true] at hev;have:=of_decide_eq_true hev.1;have:=Hg.out.len;omega
  subst hnk;have hlv:jbP rs=true:=by
   rw [jca,Bool.and_eq_true] at hev;exact hev.2
  have hfl:=jpa hlv;rw [Hg.out.len] at hfl;have hW0:(rs.getD 0 []).length<=1048576:=hW _ (List.mem_of_getElem? (Hg.out.get (i:=0) (by omega)));obtain⟨W,hWd⟩:∃W,W=(rs.getD 0 []).length:=⟨_,rfl⟩;rw [<-hWd] at hfl hW0;have hnW:n*W<=255*1048576:=Nat.mul_le_mul (by omega) hW0;obtain⟨NW,hNW⟩:∃NW,NW=n*W:=⟨_,rfl⟩;have hNWi:(n:Int)*(W:Int)=(NW:Int):=by rw [hNW];simp
  rw [<-hNW] at hnW hfl
  replace hnW:NW<=267386880:=by omega
  have HNW:=qH hNW;clear hNW;have HWd:=qH hWd;clear hWd;have Hev:=qH hev;clear hev;have Hfl:=qH hfl;clear hfl;have Hlv:=qH hlv;clear hlv
  by_cases hneg:S<0
  ·have dneg:decide (S<0)=true:=by simpa using hneg
   go_enter Tryz.func156,Tryz.ntmps156;go_wp2_with fail;refine hm.mono ?_;clear hm;rintro e w1 ⟨rfl,j,hw1⟩;have hb1:Below w.heap.size w w1:=by rw [hw1];exact below_drewN (Below.refl _ _) j
   clear hw1;have H1:=qH (H.out.later hb1);have hsz1:=hb1.size;have Hb1:=qH hb1;clear hb1;go_upto_region 3 with (fail)
   refine wp_region_held_drew (S:=λ w' =>Fr (λ _=>False) w1 w') (by kernel_rfl) (Fr.drew (Fr.refl _ _)) (λ hHeld=> ?_);clear hHeld;have hHeld:Fr (λ _=>False) w1 w1.drew:=Fr.drew (Fr.refl _ _);have hz_0:w1.heap.size<=w1.drew.heap.size:=Nat.le_refl _;obtain⟨v_201,hw⟩:∃v_201,v_201=w1.drew:=⟨_,rfl⟩;rw [<-hw] at hHeld hz_0 ⊢;clear hw;refine tA 0 (some 14) rfl hHeld ?_;refine tA 1 (some 15) rfl hHeld ?_;refine tA 2 (some 16) rfl hHeld ?_;refine tL 3 (some 17) (v:= ?vg3_205) rfl ?yg3_205 hHeld ?rg3_205
   case yg3_205=>
    intro wq hSw
    (try dsimp only at hSw)
    have qc0:=hSw.cell_some H1.out.c0 (λ h=>h);have qc1:=hSw.cell_some H1.out.c1 (λ h=>h);go_simp<;>with_reducible rfl
   try simp only [Act.put,sA,sB,sC]
   refine tA 4 (some 18) rfl hHeld ?_;refine rW 5 (some 19) rfl λ K hK=> ?_
   go_simp;have hh:=ht v_201 ((Hg.out.later Hb1.out).later (hHeld.belowAll (λ _ h=>h.elim)));refine hh.mono ?_;clear hh;rintro e v_207 ⟨rfl,hbN⟩;have hfN:Fr (λ _=>False) v_201 v_207:=Fr.of_below hbN;clear hbN;go_wp2_with fail;have hHeld:=hHeld.trans hfN;have hz_208:=hfN.size;refine hK.out _ _ hHeld λ _=> ?_
   clear hK K hfN
   try simp only [Act.put,sA,sB,sC]
   refine tA 6 (some 20) rfl hHeld ?_;refine tA 7 (some 21) rfl hHeld ?_;refine tA 8 (some 22) rfl hHeld ?_;refine tA 9 (some 23) rfl hHeld ?_;refine tA 10 (some 24) rfl hHeld ?_;refine tA 11 (some 25) rfl hHeld ?_;refine tU 12 (some 26) rfl hHeld ?_;refine tU 13 (some 27) rfl hHeld ?_;refine tU 14 (some 28) rfl hHeld ?_;refine tU 15 (some 29) rfl hHeld ?_;refine tU 16 (some 30) rfl hHeld ?_;refine tU 17 (some 31) rfl hHeld ?_;refine tU 18 (some 32) rfl hHeld ?_;refine tU 19 (some 33) rfl hHeld ?_;refine tU 20 (some 34) rfl hHeld ?_;refine tU 21 (some 35) rfl hHeld ?_;refine tU 22 (some 36) rfl hHeld ?_;refine tU 23 (some 37) rfl hHeld ?_;refine tA 24 (some 38) rfl hHeld ?_;refine tD ?_;have hbF:=Hb1.out.trans ((hHeld.belowAll (λ _ h=>h.elim)).mono hsz1);go_wp2_with fail;go_ret2;exact⟨hbF, .inl ⟨λ hh=>(by have h1:=hh.2.1;omega),rfl⟩⟩
  ·have dneg:decide (S<0)=false:=by simpa using hneg
   obtain⟨b,o,rfl,hc⟩:=Hg.out.at_ (by omega);obtain⟨A0,c0,hc0,hs0⟩:=hc 0 _ (Hg.out.get (by omega));rw [<-HWd.out,Nat.add_zero] at hc0;have Hc0:=qH hc0;clear hc0 hs0 hc;have h0n:0<n:=by omega
   have hwN:IntKind.i64.wrap (NW:Int)=(NW:Int):=by rw [IntKind.wrap_i64];omega
   by_cases hgt:(NW:Int)<S
   ·have dgt:decide ((NW:Int)<S)=true:=by simpa using hgt
    go_enter Tryz.func156,Tryz.ntmps156;go_wp2_with fail;refine hm.mono ?_;clear hm;rintro e w1 ⟨rfl,j,hw1⟩;have hb1:Below w.heap.size w w1:=by rw [hw1];exact below_drewN (Below.refl _ _) j
    clear hw1;have H1:=qH (H.out.later hb1);have hsz1:=hb1.size;have Hb1:=qH hb1;clear hb1;go_upto_region 3 with (fail)
    refine wp_region_held_drew (S:=λ w' =>Fr (λ _=>False) w1 w') (by kernel_rfl) (Fr.drew (Fr.refl _ _)) (λ hHeld=> ?_);clear hHeld;have hHeld:Fr (λ _=>False) w1 w1.drew:=Fr.drew (Fr.refl _ _);have hz_0:w1.heap.size<=w1.drew.heap.size:=Nat.le_refl _;obtain⟨v_301,hw⟩:∃v_301,v_301=w1.drew:=⟨_,rfl⟩;rw [<-hw] at hHeld hz_0 ⊢;clear hw;refine tA 0 (some 14) rfl hHeld ?_;refine tA 1 (some 15) rfl hHeld ?_;refine tA 2 (some 16) rfl hHeld ?_;refine tL 3 (some 17) (v:= ?vg3_305) rfl ?yg3_305 hHeld ?rg3_305
    case yg3_305=>
     intro wq hSw
     (try dsimp only at hSw)
     have qc0:=hSw.cell_some H1.out.c0 (λ h=>h);have qc1:=hSw.cell_some H1.out.c1 (λ h=>h);go_simp<;>with_reducible rfl
    try simp only [Act.put,sA,sB,sC]
    refine tA 4 (some 18) rfl hHeld ?_;refine rW 5 (some 19) rfl λ K hK=> ?_
    go_simp;have hh:=ht v_301 ((Hg.out.later Hb1.out).later (hHeld.belowAll (λ _ h=>h.elim)));refine hh.mono ?_;clear hh;rintro e v_307 ⟨rfl,hbN⟩;have hfN:Fr (λ _=>False) v_301 v_307:=Fr.of_below hbN;clear hbN;go_wp2_with fail;have hHeld:=hHeld.trans hfN;have hz_308:=hfN.size;refine hK.out _ _ hHeld λ _=> ?_
    clear hK K hfN
    try simp only [Act.put,sA,sB,sC]
    refine tA 6 (some 20) rfl hHeld ?_;refine tA 7 (some 21) rfl hHeld ?_;refine tA 8 (some 22) rfl hHeld ?_;refine tA 9 (some 23) rfl hHeld ?_;refine tA 10 (some 24) rfl hHeld ?_;refine tA 11 (some 25) rfl hHeld ?_;refine tA 12 (some 26) rfl hHeld ?_;refine tA 13 (some 27) rfl hHeld ?_;refine tA 14 (some 28) rfl hHeld ?_;refine tA 15 (some 29) rfl hHeld ?_;refine tA 16 (some 30) rfl hHeld ?_;refine tL 17 (some 31) (v:= ?vg17_320) rfl ?yg17_320 hHeld ?rg17_320
    case yg17_320=>
     intro wq hSw
     (try dsimp only at hSw)
     have qc0:=hSw.cell_some H1.out.c0 (λ h=>h);go_simp<;>with_reducible rfl
    try simp only [Act.put,sA,sB,sC]
    refine tA 18 (some 32) rfl hHeld ?_;refine tA 19 (some 33) rfl hHeld ?_;refine tL 20 (some 34) (v:= ?vg20_323) rfl ?yg20_323 hHeld ?rg20_323
    case yg20_323=>
     intro wq hSw
     (try dsimp only at hSw)
     have q0:=hSw.cell_some ((Hb1.out.cell (World.block_lt_of_cell? w _ Hc0.out)).trans Hc0.out) (λ h=>h);go_simp<;>with_reducible rfl
    try simp only [Act.put,sA,sB,sC]
    refine tA 21 (some 35) rfl hHeld ?_;refine tA 22 (some 36) rfl hHeld ?_;refine tA 23 (some 37) rfl hHeld ?_;refine tA 24 (some 38) rfl hHeld ?_;refine tD ?_;have hbF:=Hb1.out.trans ((hHeld.belowAll (λ _ h=>h.elim)).mono hsz1);go_wp2_with fail;go_ret2;exact⟨hbF, .inl ⟨λ hh=>(by have h1:=hh.2.2;rw [Hfl.out] at h1;omega),rfl⟩⟩
   ·have dgt:decide ((NW:Int)<S)=false:=by simpa using hgt
    go_enter Tryz.func156,Tryz.ntmps156;go_wp2_with fail;refine hm.mono ?_;clear hm;rintro e w1 ⟨rfl,j,hw1⟩;have hb1:Below w.heap.size w w1:=by rw [hw1];exact below_drewN (Below.refl _ _) j
    clear hw1;have H1:=qH (H.out.later hb1);have hsz1:=hb1.size;have Hb1:=qH hb1;clear hb1;go_upto_region 3 with (fail)
    refine wp_region_held_drew (S:=λ w' =>Fr (λ _=>False) w1 w') (by kernel_rfl) (Fr.drew (Fr.refl _ _)) (λ hHeld=> ?_);clear hHeld;have hHeld:Fr (λ _=>False) w1 w1.drew:=Fr.drew (Fr.refl _ _);have hz_0:w1.heap.size<=w1.drew.heap.size:=Nat.le_refl _;obtain⟨v_401,hw⟩:∃v_401,v_401=w1.drew:=⟨_,rfl⟩;rw [<-hw] at hHeld hz_0 ⊢;clear hw;refine tA 0 (some 14) rfl hHeld ?_;refine tA 1 (some 15) rfl hHeld ?_;refine tA 2 (some 16) rfl hHeld ?_;refine tL 3 (some 17) (v:= ?vg3_405) rfl ?yg3_405 hHeld ?rg3_405
    case yg3_405=>
     intro wq hSw
     (try dsimp only at hSw)
     have qc0:=hSw.cell_some H1.out.c0 (λ h=>h);have qc1:=hSw.cell_some H1.out.c1 (λ h=>h);go_simp<;>with_reducible rfl
    try simp only [Act.put,sA,sB,sC]
    refine tA 4 (some 18) rfl hHeld ?_;refine rW 5 (some 19) rfl λ K hK=> ?_
    go_simp;have hh:=ht v_401 ((Hg.out.later Hb1.out).later (hHeld.belowAll (λ _ h=>h.elim)));refine hh.mono ?_;clear hh;rintro e v_407 ⟨rfl,hbN⟩;have hfN:Fr (λ _=>False) v_401 v_407:=Fr.of_below hbN;clear hbN;go_wp2_with fail;have hHeld:=hHeld.trans hfN;have hz_408:=hfN.size;refine hK.out _ _ hHeld λ _=> ?_
    clear hK K hfN
    try simp only [Act.put,sA,sB,sC]
    refine tA 6 (some 20) rfl hHeld ?_;refine tA 7 (some 21) rfl hHeld ?_;refine tA 8 (some 22) rfl hHeld ?_;refine tA 9 (some 23) rfl hHeld ?_;refine tA 10 (some 24) rfl hHeld ?_;refine tA 11 (some 25) rfl hHeld ?_;refine tA 12 (some 26) rfl hHeld ?_;refine tA 13 (some 27) rfl hHeld ?_;refine tA 14 (some 28) rfl hHeld ?_;refine tA 15 (some 29) rfl hHeld ?_;refine tA 16 (some 30) rfl hHeld ?_;refine tL 17 (some 31) (v:= ?vg17_420) rfl ?yg17_420 hHeld ?rg17_420
    case yg17_420=>
     intro wq hSw
     (try dsimp only at hSw)
     have qc0:=hSw.cell_some H1.out.c0 (λ h=>h);go_simp<;>with_reducible rfl
    try simp only [Act.put,sA,sB,sC]
    refine tA 18 (some 32) rfl hHeld ?_;refine tA 19 (some 33) rfl hHeld ?_;refine tL 20 (some 34) (v:= ?vg20_423) rfl ?yg20_423 hHeld ?rg20_423
    case yg20_423=>
     intro wq hSw
     (try dsimp only at hSw)
     have q0:=hSw.cell_some ((Hb1.out.cell (World.block_lt_of_cell? w _ Hc0.out)).trans Hc0.out) (λ h=>h);go_simp<;>with_reducible rfl
    try simp only [Act.put,sA,sB,sC]
    refine tA 21 (some 35) rfl hHeld ?_;refine tA 22 (some 36) rfl hHeld ?_;refine tA 23 (some 37) rfl hHeld ?_;refine tA 24 (some 38) rfl hHeld ?_;refine tD ?_;have hbF:=Hb1.out.trans ((hHeld.belowAll (λ _ h=>h.elim)).mono hsz1);have HbF:=qH hbF;clear hbF;have HG2:=qH (Hg.out.later HbF.out);have hszf:=HbF.out.size;obtain⟨wf,hwf⟩:∃x,x=v_407:=⟨_,rfl⟩;rw [<-hwf] at HbF HG2 hszf ⊢;clear hwf hHeld;have hS30:S<=1073741824:=by omega
    obtain⟨V,hV⟩:∃V:Nat,S=(V:Int):=⟨S.toNat,by omega⟩;have hVn:V<=1073741824:=by omega
    have hVN:V<=NW:=by omega
    have hmk:=jj8 S V hV hVn;subst hV;go_wp2_with fail;go_loopw [8,43] (λ v i wr=>∃(j q:Nat) (A':Option Addr) (c':Nat),j<=n∧i= .int .i64 (j:Int)∧q<=V∧q=min V (j*W)∧v= .slice A' q c' ∧Own wr wf.heap.size 5 1 A' q c' (cells ((rs.take j).flatten.take V))∧Below wf.heap.size wf wr∧∀bb oo,0<q->A' =some ⟨bb,oo,none⟩->wf.heap.size<=bb) (λ _ i _=>n-(intOf i).toNat)
    case atStart=>exact⟨0,0,_,_,by omega,rfl,by omega,by simp,rfl,by simpa using (Grow.made0 wf V (by unfold maxLen;omega)).own,(Below.refl _ _).alloc (Nat.le_refl _) _,λ bb oo h=>absurd h (by omega)⟩
    case round=>
     obtain⟨j,q,A',c',hj,rfl,hq,hqm,rfl,hO,hb,hlo⟩:=hrel;have Hlo:=qH hlo;clear hlo;have HO:=qH hO;clear hO;have Hb:=qH hb;have hszr:=hb.size;have hqc:=HO.out.sl.cap;have hct:=HO.out.sl.top;unfold maxLen at hct;have Hqm:=qH hqm;clear hb hqm
     by_cases hlt:j<n
     ·obtain⟨b',o',e,hc⟩:=(HG2.out.later Hb.out).at_ (by omega)
      injection e with e
      injection e with e1 e2
      subst e1;subst e2;obtain⟨Ar,cr,hcr,hsr⟩:=hc j _ (HG2.out.get hlt);have hlr:(rs.getD j []).length=W:=by rw [HWd.out];exact jbt Hlv.out (by rw [Hg.out.len];exact hlt)
      rw [hlr] at hcr hsr;have hcc:=hsr.cap;have hcc2:=hsr.top;unfold maxLen at hcc2;obtain⟨r,hr⟩:∃r,r=rs.getD j []:=⟨_,rfl⟩;rw [<-hr] at hlr hsr;have Hr:=qH hr;clear hr;have Hsr:=qH hsr;clear hsr hc;have Hlr:=qH hlr;clear hlr;have hji:(j:Int)<(n:Int):=by omega
      rcases Nat.lt_or_ge (V-q) W with hle|hle
      ·have hxi:(V:Int)-(q:Int)<(W:Int):=by omega
       have hqn:min V ((j+1)*W)=V:=by
        have:=Hqm.out;rw [Nat.add_mul,Nat.one_mul];omega
       have Hqn:=qH hqn;clear hqn;have Hpiece:=qH (show Sl wr 1 Ar (V-q) cr (cells (r.take (V-q))) from by
        have:=Hsr.out.sub1 0 (V-q) cr (Nat.zero_le _) (by omega) (by omega) (by unfold maxLen;omega);rw [Nat.sub_zero,List.drop_zero] at this
        rcases Ar with _|ad
        ·exact this
        ·rw [Option.map_some,show ad.add 0=ad from by obtain⟨b,o,s⟩:=ad;unfold Addr.add;split<;>simp_all] at this
         exact this)
       go_wp2_with (at_builtin;refine jcL (B:=wf.heap.size) rfl (.tmp 47) (.tmp 56) rfl rfl HO.out (by omega) Hlo.out Ar (V-q) cr (r.take (V-q)) rfl Hpiece.out (by omega) ?pc);intro A2 c2 w2 ho2 hb2 hlo2;have Hlo2:=qH hlo2;clear hlo2;have hnext:=jhH (rs:=rs) (j:=j) (by rw [Hg.out.len];exact hlt) V;have hfj:(rs.take j).flatten.length=j*W:=jdN j (by rw [Hg.out.len];omega) (λ i hi=>by rw [HWd.out];exact jbt Hlv.out hi);rw [hfj,<-Hr.out] at hnext;have htk:r.take (V-j*W)=r.take (V-q):=by
        have h1:=Hlr.out;have h3:=Hqm.out
        rcases Nat.le_total (j*W) V with h4|h4
        ·obtain rfl:q=j*W:=by omega
         first|rfl|(rw [List.take_of_length_le (by omega),List.take_of_length_le (by omega)])
        ·rw [show V-j*W=0 by omega,show (V-q)=0 by omega]
       rw [htk] at hnext;rw [<-jai,hnext] at ho2;have Ho2:=qH ho2;clear ho2 hnext htk hfj;have Hb2:=qH (Hb.out.trans hb2);clear hb2;go_wp2_with fail;go_roundw
       case rel=>exact⟨j+1,V,A2,c2,by omega,by go_num,by omega,Hqn.out.symm,rfl,Ho2.out,Hb2.out,λ bb oo h e=>Hlo2.out bb oo (by omega) e⟩
       case measure=>simp [intOf];omega
      ·have hxi:(W:Int)<=(V:Int)-(q:Int):=by omega
       have hqn:min V ((j+1)*W)=q+W:=by
        have:=Hqm.out;rw [Nat.add_mul,Nat.one_mul];omega
       have Hqn:=qH hqn;clear hqn;have Hpiece:=qH (show Sl wr 1 Ar W cr (cells (r.take W)) from by
        have:=Hsr.out.sub1 0 W cr (Nat.zero_le _) (by omega) (by omega) (by unfold maxLen;omega);rw [Nat.sub_zero,List.drop_zero] at this
        rcases Ar with _|ad
        ·exact this
        ·rw [Option.map_some,show ad.add 0=ad from by obtain⟨b,o,s⟩:=ad;unfold Addr.add;split<;>simp_all] at this
         exact this)
       go_wp2_with (at_builtin;refine jcL (B:=wf.heap.size) rfl (.tmp 47) (.tmp 56) rfl rfl HO.out (by omega) Hlo.out Ar W cr (r.take W) rfl Hpiece.out (by omega) ?pd);intro A2 c2 w2 ho2 hb2 hlo2;have Hlo2:=qH hlo2;clear hlo2;have hnext:=jhH (rs:=rs) (j:=j) (by rw [Hg.out.len];exact hlt) V;have hfj:(rs.take j).flatten.length=j*W:=jdN j (by rw [Hg.out.len];omega) (λ i hi=>by rw [HWd.out];exact jbt Hlv.out hi);rw [hfj,<-Hr.out] at hnext;have htk:r.take (V-j*W)=r.take W:=by
        have h1:=Hlr.out;have h3:=Hqm.out
        rcases Nat.le_total (j*W) V with h4|h4
        ·obtain rfl:q=j*W:=by omega
         first|rfl|(rw [List.take_of_length_le (by omega),List.take_of_length_le (by omega)])
        ·rw [show V-j*W=0 by omega,show W=0 by omega]
       rw [htk] at hnext;rw [<-jai,hnext] at ho2;have Ho2:=qH ho2;clear ho2 hnext htk hfj;have Hb2:=qH (Hb.out.trans hb2);clear hb2;go_wp2_with fail;go_roundw
       case rel=>exact⟨j+1,q+W,A2,c2,by omega,by go_num,by omega,Hqn.out.symm,rfl,Ho2.out,Hb2.out,λ bb oo h e=>Hlo2.out bb oo (by omega) e⟩
       case measure=>simp [intOf];omega
     ·obtain rfl:j=n:=by omega
      go_wp2_with fail;go_ret2;refine⟨HbF.out.trans (Hb.out.mono hszf), .inr ⟨⟨Hev.out,by omega,by rw [Hfl.out];omega⟩,A',q,c',rfl, ?_,HbF.out.trans (Hb.out.mono hszf),λ bb oo h e=>Nat.le_trans hszf (Hlo.out bb oo h e)⟩⟩;have:=HO.out.sl;rw [show rs.take j=rs from List.take_of_length_le (by rw [Hg.out.len];exact Nat.le_refl _)] at this;rw [Int.toNat_natCast];exact this
 ·have hev':jca rs (k:Int)=false:=by simpa using hev
  rw [hev'] at ht;have Hev:=qH hev';clear hev hev';go_enter Tryz.func156,Tryz.ntmps156;go_wp2_with fail;refine hm.mono ?_;clear hm;rintro e w1 ⟨rfl,j,hw1⟩;have hb1:Below w.heap.size w w1:=by rw [hw1];exact below_drewN (Below.refl _ _) j
  clear hw1;have H1:=qH (H.out.later hb1);have hsz1:=hb1.size;have Hb1:=qH hb1;clear hb1;go_upto_region 3 with (fail)
  refine wp_region_held_drew (S:=λ w' =>Fr (λ _=>False) w1 w') (by kernel_rfl) (Fr.drew (Fr.refl _ _)) (λ hHeld=> ?_);clear hHeld;have hHeld:Fr (λ _=>False) w1 w1.drew:=Fr.drew (Fr.refl _ _);have hz_0:w1.heap.size<=w1.drew.heap.size:=Nat.le_refl _;obtain⟨v_101,hw⟩:∃v_101,v_101=w1.drew:=⟨_,rfl⟩;rw [<-hw] at hHeld hz_0 ⊢;clear hw;refine tA 0 (some 14) rfl hHeld ?_;refine tA 1 (some 15) rfl hHeld ?_;refine tA 2 (some 16) rfl hHeld ?_;refine tL 3 (some 17) (v:= ?vg3_105) rfl ?yg3_105 hHeld ?rg3_105
  case yg3_105=>
   intro wq hSw
   (try dsimp only at hSw)
   have qc0:=hSw.cell_some H1.out.c0 (λ h=>h);have qc1:=hSw.cell_some H1.out.c1 (λ h=>h);go_simp<;>with_reducible rfl
  try simp only [Act.put,sA,sB,sC]
  refine tA 4 (some 18) rfl hHeld ?_;refine rW 5 (some 19) rfl λ K hK=> ?_
  go_simp;have hh:=ht v_101 ((Hg.out.later Hb1.out).later (hHeld.belowAll (λ _ h=>h.elim)));refine hh.mono ?_;clear hh;rintro e v_107 ⟨rfl,hbN⟩;have hfN:Fr (λ _=>False) v_101 v_107:=Fr.of_below hbN;clear hbN;go_wp2_with fail;have hHeld:=hHeld.trans hfN;have hz_108:=hfN.size;refine hK.out _ _ hHeld λ _=> ?_
  clear hK K hfN
  try simp only [Act.put,sA,sB,sC]
  refine tA 6 (some 20) rfl hHeld ?_;refine tA 7 (some 21) rfl hHeld ?_;refine tU 8 (some 22) rfl hHeld ?_;refine tU 9 (some 23) rfl hHeld ?_;refine tA 10 (some 24) rfl hHeld ?_;refine tA 11 (some 25) rfl hHeld ?_;refine tU 12 (some 26) rfl hHeld ?_;refine tU 13 (some 27) rfl hHeld ?_;refine tU 14 (some 28) rfl hHeld ?_;refine tU 15 (some 29) rfl hHeld ?_;refine tU 16 (some 30) rfl hHeld ?_;refine tU 17 (some 31) rfl hHeld ?_;refine tU 18 (some 32) rfl hHeld ?_;refine tU 19 (some 33) rfl hHeld ?_;refine tU 20 (some 34) rfl hHeld ?_;refine tU 21 (some 35) rfl hHeld ?_;refine tU 22 (some 36) rfl hHeld ?_;refine tU 23 (some 37) rfl hHeld ?_;refine tA 24 (some 38) rfl hHeld ?_;refine tD ?_;have hbF:=Hb1.out.trans ((hHeld.belowAll (λ _ h=>h.elim)).mono hsz1);go_wp2_with fail;go_ret2;exact⟨hbF, .inl ⟨λ hh=>absurd hh.1 (by rw [Hev.out];decide),rfl⟩⟩
end
section
theorem jns (w:World)(n p i:Nat)(h1:1<=n)(h2:n<=255)(hp:p<9223372036854775808)(hi:i<9223372036854775808):
  Calls Tryz.prog 203 #[.int .i64 (n:Int), .int .i64 (p:Int), .int .i64 (i:Int)] w λ e w' =>e= .returned (.int .i64 (jaW n p i:Nat))∧Below w.heap.size w w':=by
 have a1:¬(n:Int)<1:=by omega
 have a2:¬(p:Int)<0:=by omega
 have a3:¬(i:Int)<0:=by omega
 have z0:¬(n:Int)=0:=by omega
 go_enter Tryz.func203,Tryz.ntmps203;go_wp2_with fail;go_quiet (fail);go_wp2_with fail;go_ret;refine⟨?_,dn13 (Below.refl _ _) _⟩;have hx:p % n<n:=Nat.mod_lt _ (by omega);have hy:i % n<n:=Nat.mod_lt _ (by omega);have hw:wrap64 ((p:Int) % (n:Int) +(i:Int) % (n:Int))=((p % n+i % n:Nat):Int):=by
  have e1:(p:Int) % (n:Int)=((p % n:Nat):Int):=by simp
  have e2:(i:Int) % (n:Int)=((i % n:Nat):Int):=by simp
  rw [e1,e2];unfold wrap64;omega
 rw [hw,Int.tmod_eq_emod_of_nonneg (by omega)];unfold jaW;simp
theorem jfB {w:World}{C k m F T:Nat}(h:Cod w C k m F T):Calls Tryz.prog 88 #[.pointer (some ⟨C,0,none⟩)] w λ e w' =>e= .returned (.int .i64 ((44*k:Nat):Int))∧w' =w:=by
 have hk:=h.n255;have hh:=jeE C k m F T w h;have H:=qH h;clear h;have hw:wrap64 ((k:Int)*44)=44*(k:Int):=by unfold wrap64;omega
 go_enter Tryz.func88,Tryz.ntmps88;go_wp2_with fail;refine hh.mono ?_;clear hh;rintro e w1 ⟨rfl,hw1⟩;obtain rfl:w=w1:=hw1.symm;go_wp2_with fail;go_ret;refine⟨?_,rfl⟩;rw [show ((44*k:Nat):Int)=(k:Int)*44 from by omega]
 rfl
def StB (w:World)(b A C:Nat)(kd:UInt8)(p g:Nat):Prop:=w.heap[b]? =some (.cells #[.pointer (some ⟨A,0,none⟩), .pointer (some ⟨C,0,none⟩), .int .u8 (kd.toNat:Int), .int .i64 (p:Int), .int .u64 (g:Int)] 181 (0,0))
section
variable {w w':World}{b A C p g:Nat}{kd:UInt8}
theorem StB.c0 (h:StB w b A C kd p g):w.cell? ⟨b,0,none⟩=some (.pointer (some ⟨A,0,none⟩)):=by rw [cell_of_row _ _ _ _ _ _ h];rfl
theorem StB.c1 (h:StB w b A C kd p g):w.cell? ⟨b,1,none⟩=some (.pointer (some ⟨C,0,none⟩)):=by rw [cell_of_row _ _ _ _ _ _ h];rfl
theorem StB.c2 (h:StB w b A C kd p g):w.cell? ⟨b,2,none⟩=some (.int .u8 (kd.toNat:Int)):=by rw [cell_of_row _ _ _ _ _ _ h];rfl
theorem StB.c3 (h:StB w b A C kd p g):w.cell? ⟨b,3,none⟩=some (.int .i64 (p:Int)):=by rw [cell_of_row _ _ _ _ _ _ h];rfl
theorem StB.c4 (h:StB w b A C kd p g):w.cell? ⟨b,4,none⟩=some (.int .u64 (g:Int)):=by rw [cell_of_row _ _ _ _ _ _ h];rfl
theorem StB.lt (h:StB w b A C kd p g):b<w.heap.size:=block_lt h
theorem StB.later (h:StB w b A C kd p g)(hb:Below w.heap.size w w'):StB w' b A C kd p g:=(hb.block _ (block_lt h)).trans h
theorem StB.fr {S:Nat->Prop}(h:StB w b A C kd p g)(hf:Fr S w w')(hb:¬S b):StB w' b A C kd p g:=hf.row_some h hb
end
theorem jnt (A C:Nat)(kd:UInt8)(p g:Nat):(Tryz.prog.info? 181).map (·.size)=some (#[Value.pointer (some ⟨A,0,none⟩), .pointer (some ⟨C,0,none⟩), .int .u8 (kd.toNat:Int), .int .i64 (p:Int), .int .u64 (g:Int)]:Array Value).size:=by
 show _=some 5
 kernel_rfl
theorem jco {ρ:Operand->Value}{o:Oper}{x:Operand}{w:World}{B A C p g:Nat}{kd:UInt8}(ho:o.op= .load 181 x)(hx:ρ x= .pointer (some ⟨B,0,none⟩))(h:StB w B A C kd p g):(execOp ρ o).run Tryz.prog w= .ok (.value (.agg #[.pointer (some ⟨A,0,none⟩), .pointer (some ⟨C,0,none⟩), .int .u8 (kd.toNat:Int), .int .i64 (p:Int), .int .u64 (g:Int)])) w:=by
 unfold execOp;simp only [ho,hx,Instr.loadAt,Instr.sureAddr,Sem.run_bind,Sem.run_pure,Result.andThen_ok,run_loadVar_row w B _ 181 #[.pointer (some ⟨A,0,none⟩), .pointer (some ⟨C,0,none⟩), .int .u8 (kd.toNat:Int), .int .i64 (p:Int), .int .u64 (g:Int)] (0,0) _ h Tryz.underlying181 rfl (jnt A C kd p g)]
theorem cn13 {w:World}{C k m F T n:Nat}(h:Cod w C k m F T)(hn:n=k+m):Calls Tryz.prog 84 #[.pointer (some ⟨C,0,none⟩)] w λ e w' =>e= .returned (.int .i64 (n:Int))∧Below w.heap.size w w':=by
 subst hn;exact jhz C k m F T w h
section
variable {Rep:World->(Nat->Prop)->Nat->Dv->Prop}{w:World}{S:Nat->Prop}{A C k m F T N n p g i:Nat}{kd:UInt8}{xs:List Dv}
theorem jgt (h:Cod w C k m F T)(hn:n=k+m)(hp:p<9223372036854775808)(hi:i<9223372036854775808):
  Calls Tryz.prog 145 #[.agg #[.pointer (some ⟨A,0,none⟩), .pointer (some ⟨C,0,none⟩), .int .u8 (kd.toNat:Int), .int .i64 (p:Int), .int .u64 (g:Int)], .int .i64 (i:Int)] w λ e w' =>e= .returned (.int .i64 (jaW n p i:Nat))∧Below w.heap.size w w':=by
 have hn1:=h.k1;have hn2:=h.n255;have H:=qH h;have Hn:=qH hn;obtain⟨r,hr⟩:∃r,r=jaW n p i:=⟨_,rfl⟩;rw [<-hr];have Hr:=qH hr;have hq1:1<=n:=by omega
 have hq2:n<=255:=by omega
 clear h hn hr;go_enter Tryz.func145,Tryz.ntmps145;go_wp2_with fail;have hnew:StB (w.alloc (.cells #[.pointer (some ⟨A,0,none⟩), .pointer (some ⟨C,0,none⟩), .int .u8 (kd.toNat:Int), .int .i64 (p:Int), .int .u64 (g:Int)] 181)) w.heap.size A C kd p g:=heap_alloc_new w _;have hb0:Below w.heap.size w (w.alloc (.cells #[.pointer (some ⟨A,0,none⟩), .pointer (some ⟨C,0,none⟩), .int .u8 (kd.toNat:Int), .int .i64 (p:Int), .int .u64 (g:Int)] 181)):=(Below.refl _ _).alloc (Nat.le_refl _) _;obtain⟨wl,hwl⟩:∃x,x=w.alloc (.cells #[.pointer (some ⟨A,0,none⟩), .pointer (some ⟨C,0,none⟩), .int .u8 (kd.toNat:Int), .int .i64 (p:Int), .int .u64 (g:Int)] 181):=⟨_,rfl⟩;rw [<-hwl] at hnew hb0 ⊢;have Hs:=qH hnew;have B0:=qH hb0;clear hwl hnew hb0;refine wp_region_held_drew (S:=λ w' =>Fr (λ _=>False) wl.drew w') (by kernel_rfl) (Fr.refl _ _) (λ hHeld=> ?_);clear hHeld;refine tA 0 (some 5) rfl (Fr.refl _ _) ?_
 refine tL 1 (some 6) (v:= ?vh1) rfl ?yh1 (Fr.refl _ _) ?rh1
 case yh1=>
  intro wq hSw
  (try dsimp only at hSw)
  have hq:=hSw.cell_some Hs.out.c1 (λ h=>h);go_simp<;>with_reducible rfl
 try simp only [Act.put,sA,sB,sC]
 refine tA 3 (some 8) rfl (Fr.refl _ _) ?_;refine tA 4 (some 9) rfl (Fr.refl _ _) ?_;refine tL 5 (some 10) (v:= ?vh5) rfl ?yh5 (Fr.refl _ _) ?rh5
 case yh5=>
  intro wq hSw
  (try dsimp only at hSw)
  have hq:=hSw.cell_some Hs.out.c3 (λ h=>h);go_simp<;>with_reducible rfl
 try simp only [Act.put,sA,sB,sC]
 refine tA 6 (some 11) rfl (Fr.refl _ _) ?_;refine rW 2 (some 7) rfl λ K hK=> ?_
 go_simp;refine(cn13 (H.out.later (B0.out.trans (Below.drew (Below.refl _ _)))) Hn.out).mono ?_;rintro e w1 ⟨rfl,hb⟩;have hfr:Fr (λ _=>False) wl.drew w1:=Fr.of_below hb;have B1:=qH (show Below w.heap.size w w1 from (B0.out.trans ((Below.drew (Below.refl wl.heap.size wl)).mono B0.out.size)).trans (hb.mono B0.out.size));clear hb;go_wp2_with fail;refine hK.out _ _ hfr (λ hHeld=> ?_);clear hK K hHeld
 try simp only [Act.put,sA,sB,sC]
 refine jac (S':=λ w' =>Fr (λ _=>False) w1 w') (λ w' h=>hfr.trans h) ?_;clear hfr;refine rW 7 (some 12) rfl λ K hK=> ?_
 go_simp;refine(jns w1 n p i hq1 hq2 hp hi).mono ?_;rintro e w2 ⟨rfl,hb⟩;rw [<-Hr.out];have hfr:Fr (λ _=>False) w1 w2:=Fr.of_below hb;have B2:=qH (B1.out.trans (hb.mono B1.out.size));clear hb;go_wp2_with fail;refine hK.out _ _ hfr (λ hHeld=> ?_);clear hK K hHeld
 try simp only [Act.put,sA,sB,sC]
 refine jac (S':=λ w' =>Fr (λ _=>False) w2 w') (λ w' h=>hfr.trans h) ?_;clear hfr;refine tA 8 (some 4) rfl (Fr.refl _ _) ?_;refine tD ?_;go_wp2_with fail;go_ret;exact⟨rfl,B2.out⟩
theorem jfC (DK:DrvK Rep)(h:Ac13 Rep w S A C k m F T N xs)(hk1:1<=kd.toNat)(hk4:kd.toNat<=4)(hp:p<N):
  Calls Tryz.prog 91 #[.agg #[.pointer (some ⟨A,0,none⟩), .pointer (some ⟨C,0,none⟩), .int .u8 (kd.toNat:Int), .int .i64 (p:Int), .int .u64 (g:Int)]] w λ e w' =>e= .returned (.int .i64 0)∧Below w.heap.size w w':=by
 obtain⟨n,hn⟩:∃n,n=k+m:=⟨_,rfl⟩;have hq1:1<=n:=by have:=h.c.k1;omega
 have hq2:n<=255:=by have:=h.c.n255;omega
 have hlen:xs.length=n:=by rw [h.len,hn]
 have harN:∀w,AP Rep w S A xs->Calls Tryz.prog 60 #[.pointer (some ⟨A,0,none⟩)] w λ e w' =>e= .returned (.int .i64 (n:Int))∧w' =w:=λ w q=>by
  have:=jcY q
  rwa [hlen] at this
 obtain⟨x0,hx0⟩:∃x,xs[0]? =some x:=⟨_,List.getElem?_eq_getElem (by omega)⟩;have hsec:∀w,AP Rep w S A xs->Calls Tryz.prog 85 #[.pointer (some ⟨A,0,none⟩)] w λ e w' =>e= .returned (.int .i64 (N:Int))∧Below w.heap.size w w':=λ w q=>by
  have:=jdU DK q hx0
  rwa [(h.n 0 x0 hx0).2] at this
 have PA:=qH h.a;have PC:=qH h.c;have Hn:=qH hn;have k1:(1:Int)<=(kd.toNat:Int):=by omega
 have k4:(kd.toNat:Int)<=4:=by omega
 have hpi:(p:Int)<(N:Int):=by omega
 have hp0:(0:Int)<=(p:Int):=by omega
 have hn0:¬(n:Int)=0:=by omega
 obtain⟨y,hy⟩:∃y,y=kd.toNat:=⟨_,rfl⟩;clear h hn hlen hx0 hk1 hk4;go_enter Tryz.func91,Tryz.ntmps91;have hnew:StB (w.alloc (.cells #[.pointer (some ⟨A,0,none⟩), .pointer (some ⟨C,0,none⟩), .int .u8 (kd.toNat:Int), .int .i64 (p:Int), .int .u64 (g:Int)] 181)) w.heap.size A C kd p g:=heap_alloc_new w _;have hb0:Below w.heap.size w (w.alloc (.cells #[.pointer (some ⟨A,0,none⟩), .pointer (some ⟨C,0,none⟩), .int .u8 (kd.toNat:Int), .int .i64 (p:Int), .int .u64 (g:Int)] 181)):=(Below.refl _ _).alloc (Nat.le_refl _) _;obtain⟨B,hB⟩:∃B,B=w.heap.size:=⟨_,rfl⟩;go_wp2_with fail;obtain⟨wl,hwl⟩:∃x,x=w.alloc (.cells #[.pointer (some ⟨A,0,none⟩), .pointer (some ⟨C,0,none⟩), .int .u8 (kd.toNat:Int), .int .i64 (p:Int), .int .u64 (g:Int)] 181):=⟨_,rfl⟩;rw [<-hwl] at hnew hb0 ⊢;rw [<-hB] at hnew ⊢;have PA0:=qH (PA.out.later DK.lay hb0);have PC0:=qH (PC.out.later hb0);have Hs:=qH hnew;have B0:=qH hb0
 have c0:=hnew.c0;have c1:=hnew.c1;have c2:=hnew.c2;have c3:=hnew.c3;clear hwl hnew hb0 hB;refine(harN wl PA0.out).mono ?_;rintro e w1 ⟨rfl,hw1⟩;obtain rfl:wl=w1:=hw1.symm;clear hw1;go_wp2_with fail;refine(jdK C k m F T wl PC0.out).mono ?_;rintro e w1 ⟨rfl,hw1⟩;obtain rfl:wl=w1:=hw1.symm;clear hw1;go_wp2_with fail;refine wp_region_held_drew (S:=λ w' =>Fr (λ _=>False) wl.drew w') (by kernel_rfl) (Fr.refl _ _) (λ hHeld=> ?_);clear hHeld;refine tA 0 (some 25) rfl (Fr.refl _ _) ?_;refine tA 1 (some 26) rfl (Fr.refl _ _) ?_;refine tL 2 (some 27) (v:= ?vf2) rfl ?yf2 (Fr.refl _ _) ?rf2
 case yf2=>
  intro wq hSw
  (try dsimp only at hSw)
  have hq:=hSw.cell_some Hs.out.c3 (λ h=>h);go_simp<;>with_reducible rfl
 try simp only [Act.put,sA,sB,sC]
 refine tA 3 (some 28) rfl (Fr.refl _ _) ?_;refine tA 4 (some 29) rfl (Fr.refl _ _) ?_;refine tA 5 (some 30) rfl (Fr.refl _ _) ?_;refine tA 6 (some 31) rfl (Fr.refl _ _) ?_;refine tL 7 (some 32) (v:= ?vf7) rfl ?yf7 (Fr.refl _ _) ?rf7
 case yf7=>
  intro wq hSw
  (try dsimp only at hSw)
  have hq:=hSw.cell_some Hs.out.c3 (λ h=>h);go_simp<;>with_reducible rfl
 try simp only [Act.put,sA,sB,sC]
 refine tA 8 (some 33) rfl (Fr.refl _ _) ?_;refine tL 9 (some 34) (v:= ?vf9) rfl ?yf9 (Fr.refl _ _) ?rf9
 case yf9=>
  intro wq hSw
  (try dsimp only at hSw)
  have hq:=hSw.cell_some Hs.out.c0 (λ h=>h);go_simp<;>with_reducible rfl
 try simp only [Act.put,sA,sB,sC]
 refine rW 10 (some 35) rfl λ K hK=> ?_
 go_simp;refine(hsec wl.drew (PA0.out.later DK.lay (Below.drew (Below.refl _ _)))).mono ?_;rintro e w2 ⟨rfl,hb⟩;have hbb:Below wl.heap.size wl w2:=(Below.drew (Below.refl wl.heap.size wl)).trans hb;have hfr:Fr (λ _=>False) wl.drew w2:=Fr.of_below hb;have B2:=qH (B0.out.trans (hbb.mono B0.out.size));have Hs2:=qH (Hs.out.later hbb);have PA2:=qH (PA0.out.later DK.lay hbb);have PC2:=qH (PC0.out.later hbb);clear hb hbb;go_wp2_with fail;refine hK.out _ _ hfr (λ hHeld=> ?_);clear hK K hHeld
 try simp only [Act.put,sA,sB,sC]
 refine jac (S':=λ w' =>Fr (λ _=>False) w2 w') (λ w' h=>hfr.trans h) ?_;clear hfr;refine tA 11 (some 36) rfl (Fr.refl _ _) ?_;refine tA 12 (some 37) rfl (Fr.refl _ _) ?_;refine tA 13 (some 4) rfl (Fr.refl _ _) ?_;refine tD ?_;go_wp2_with fail;refine wp_region_held_drew (S:=λ w' =>Fr (λ _=>False) w2.drew w') (by kernel_rfl) (Fr.refl _ _) (λ hHeld=> ?_);clear hHeld;refine tA 0 (some 38) rfl (Fr.refl _ _) ?_;refine tL 1 (some 39) (v:= ?vg1) rfl ?yg1 (Fr.refl _ _) ?rg1
 case yg1=>
  intro wq hSw
  (try dsimp only at hSw)
  have hq:=hSw.cell_some Hs2.out.c0 (λ h=>h);go_simp<;>with_reducible rfl
 try simp only [Act.put,sA,sB,sC]
 refine tA 3 (some 41) rfl (Fr.refl _ _) ?_;refine tL 4 (some 42) (v:= ?vg4) rfl ?yg4 (Fr.refl _ _) ?rg4
 case yg4=>
  intro wq hSw
  (try dsimp only at hSw)
  have hq:=hSw.cell_some Hs2.out.c1 (λ h=>h);go_simp<;>with_reducible rfl
 try simp only [Act.put,sA,sB,sC]
 refine rW 2 (some 40) rfl λ K hK=> ?_
 go_simp;refine(harN w2.drew (PA2.out.later DK.lay (Below.drew (Below.refl _ _)))).mono ?_;rintro e w9 ⟨rfl,hw9⟩;subst hw9;have hfr:Fr (λ _=>False) w2.drew w2.drew:=Fr.refl _ _;go_wp2_with fail;refine hK.out _ _ hfr (λ hHeld=> ?_);clear hK K hHeld
 try simp only [Act.put,sA,sB,sC]
 refine jac (S':=λ w' =>Fr (λ _=>False) w2.drew w') (λ w' h=>hfr.trans h) ?_;clear hfr;refine rW 5 (some 43) rfl λ K hK=> ?_
 go_simp;refine(cn13 (PC2.out.later (Below.drew (Below.refl _ _))) Hn.out).mono ?_;rintro e w3 ⟨rfl,hb⟩;have hfr:Fr (λ _=>False) w2.drew w3:=Fr.of_below hb;have B3:=qH (show Below w.heap.size w w3 from B2.out.trans (((Below.drew (Below.refl w2.heap.size w2)).trans hb).mono B2.out.size));clear hb;go_wp2_with fail;refine hK.out _ _ hfr (λ hHeld=> ?_);clear hK K hHeld
 try simp only [Act.put,sA,sB,sC]
 refine jac (S':=λ w' =>Fr (λ _=>False) w3 w') (λ w' h=>hfr.trans h) ?_;clear hfr;refine tA 6 (some 44) rfl (Fr.refl _ _) ?_;refine tA 7 (some 45) rfl (Fr.refl _ _) ?_;refine tA 8 (some 46) rfl (Fr.refl _ _) ?_;refine tA 9 (some 47) rfl (Fr.refl _ _) ?_;refine tA 10 (some 48) rfl (Fr.refl _ _) ?_;refine tA 11 (some 49) rfl (Fr.refl _ _) ?_;refine tA 12 (some 50) rfl (Fr.refl _ _) ?_;refine tA 13 (some 51) rfl (Fr.refl _ _) ?_;refine tA 14 (some 52) rfl (Fr.refl _ _) ?_;refine tD ?_;go_wp2_with fail;go_ret;exact⟨rfl,B3.out⟩
end
end
section
structure Nr (w:World)(B0 B n:Nat)(rs:List (List UInt8)):Prop where
 ex:∃vs:List Value,Rw w B 105 1 n n vs∧∀(i:Nat) (r:List UInt8),rs[i]? =some r->∃A' c',vs[i]? =some (Value.slice A' r.length c')∧Sl w 1 A' r.length c' (cells r)∧∀b o,0<r.length->A' =some ⟨b,o,none⟩->B0<=b∧b≠B
 len:rs.length=n
section
variable {w w':World}{B0 B n j:Nat}{rs:List (List UInt8)}{r:List UInt8}
theorem Nr.lt (h:Nr w B0 B n rs):B<w.heap.size:=by
 obtain⟨vs,h1,_⟩:=h.ex;exact h1.lt
theorem Nr.later (h:Nr w B0 B n rs)(hb:Below w.heap.size w w'):Nr w' B0 B n rs:=by
 obtain⟨vs,h1,h3⟩:=h.ex;refine⟨⟨vs,h1.later hb,λ i r hi=> ?_⟩,h.len⟩;obtain⟨A',c',g1,g2,g3⟩:=h3 i r hi;exact⟨A',c',g1,g2.below hb (Nat.le_refl _),g3⟩
theorem Nr.made (w:World)(B0 n:Nat)(hn:n<=maxLen):Nr (w.alloc (.cells (madeCells #[.slice none 0 0] n) 105)) B0 w.heap.size n (List.replicate n []):=
 ⟨⟨List.replicate n (.slice none 0 0),Rw.made w _ _ n hn,λ i r hi=>by
  rw [List.getElem?_replicate] at hi
  split at hi
  ·rename_i hin
   injection hi with hi
   subst hi;exact⟨none,0,by rw [List.getElem?_replicate,if_pos hin];rfl,Sl.nil _ 1 0 (by decide),λ b o h=>absurd h (Nat.lt_irrefl _)⟩
  ·cases hi⟩,List.length_replicate ..⟩
theorem Nr.cell (h:Nr w B0 B n rs)(hj:j<n):(∃v,w.cell? ⟨B,j,none⟩=some v)∧w.frozen? ⟨B,j,none⟩=false:=by
 obtain⟨vs,h1,h3⟩:=h.ex;have hl:=h1.len;exact⟨⟨_,h1.cell (List.getElem?_eq_getElem (by omega))⟩,h1.free _⟩
theorem Nr.store (h:Nr w B0 B n rs)(hj:j<n){A2:Option Addr}{c2:Nat}(h2:Sl w 1 A2 r.length c2 (cells r))(h2b:∀b o,0<r.length->A2=some ⟨b,o,none⟩->B0<=b∧b≠B):Nr (w.setCell ⟨B,j,none⟩ (.slice A2 r.length c2)) B0 B n (rs.set j r):=by
 obtain⟨vs,h1,h3⟩:=h.ex;have hvl:=h1.len;have hf:Fr (λ b=>b=B) w (w.setCell ⟨B,j,none⟩ (.slice A2 r.length c2)):=(Fr.refl (λ b=>b=B) _).setCell (p:=⟨B,j,none⟩) (.inr rfl) _;refine⟨⟨vs.set j (.slice A2 r.length c2),h1.set10 j _,λ i x hi=> ?_⟩,by rw [List.length_set];exact h.len⟩;rw [List.getElem?_set] at hi
 split at hi
 ·rename_i hij
  subst hij
  split at hi
  ·injection hi with hi
   subst hi;exact⟨A2,c2,by rw [List.getElem?_set,if_pos rfl,if_pos (by omega)],h2.fr hf (λ b o hn hA=>(h2b b o hn hA).2),h2b⟩
  ·cases hi
 ·rename_i hij
  obtain⟨A3,c3,g1,g2,g3⟩:=h3 i x hi;exact⟨A3,c3,by rw [List.getElem?_set,if_neg hij];exact g1,g2.fr hf (λ b o hn hA=>(g3 b o hn hA).2),g3⟩
theorem Nr.ns (h:Nr w B0 B n rs)(hB:B0<=B):Ns cells w (λ b=>B0<=b) (some ⟨B,0,none⟩) n n rs:=by
 obtain⟨vs,h1,h3⟩:=h.ex;refine⟨⟨vs,h1.sl,λ i r hi=> ?_⟩,h.len,λ b o hn hA=> ?_⟩
 ·obtain⟨A',c',g1,g2,g3⟩:=h3 i r hi
  exact⟨A',c',g1,g2,λ b o hn hA=>(g3 b o hn hA).1⟩
 ·injection hA with hA
  injection hA with hA _
  rw [<-hA];exact hB
theorem Nr.gr (h:Nr w B0 B n rs):Gr w (some ⟨B,0,none⟩) n n rs:=by
 obtain⟨vs,h1,h3⟩:=h.ex;refine⟨⟨vs,h1.sl,λ i r hi=> ?_⟩,h.len⟩;obtain⟨A',c',g1,g2,_⟩:=h3 i r hi;exact⟨A',c',g1,g2⟩
end
def jpu (f:Nat->Option Sh)(i:Nat):List UInt8:=match f i with|some s=>s.body|none=> []
def jdW (f:Nat->Option Sh)(n j:Nat):List (List UInt8):=(List.range n).map λ i=>if i<j then jpu f i else []
theorem jfD {f:Nat->Option Sh}{n j:Nat}:(jdW f n j).length=n:=by simp [jdW]
theorem jlq {f:Nat->Option Sh}{n:Nat}:List.replicate n []=jdW f n 0:=by
 apply List.ext_getElem
 ·rw [jfD,List.length_replicate]
 ·intro i h1 h2;simp [jdW]
theorem jlr {f:Nat->Option Sh}{n j:Nat}{s:Sh}(h:f j=some s):(jdW f n j).set j s.body=jdW f n (j+1):=by
 apply List.ext_getElem
 ·rw [List.length_set,jfD,jfD]
 ·intro i h1 h2
  rw [List.getElem_set];simp only [jdW,List.getElem_map,List.getElem_range]
  by_cases e:j=i
  ·rw [if_pos e,if_pos (by omega),<-e,jpu,h]
  ·rw [if_neg e]
   by_cases q:i<j
   ·rw [if_pos q,if_pos (by omega)]
   ·rw [if_neg q,if_neg (by omega)]
theorem jls {f:Nat->Option Sh}{n j:Nat}(h:f j=none):jdW f n j=jdW f n (j+1):=by
 refine List.map_congr_left λ i _=> ?_
 by_cases q:i<j
 ·rw [if_pos q,if_pos (by omega)]
 ·rw [if_neg q]
  by_cases e:i<j+1
  ·rw [if_pos e,show i=j by omega,jpu,h]
  ·rw [if_neg e]
section
variable {w:World}{M c n:Nat}{f:Nat->Option Sh}
theorem jlt (h:Mv w M c f)(hn:n<=255)(hok:∀i s,f i=some s->s.Ok):
  Calls Tryz.prog 155 #[.map (some M), .int .i64 (n:Int)] w λ e w' =>∃A',e= .returned (.slice A' n n)∧Gr w' A' n n (jdW f n n)∧Below w.heap.size w w':=by
 have hzv:=jcn;have hmk:=jbE (n:Int) n rfl (by omega);have H:=qH h;have HOK:=qH hok;clear h hok;go_enter Tryz.func155,Tryz.ntmps155;go_wp2_with fail;have hb1:Below w.heap.size w (w.alloc (.cells (madeCells #[.slice none 0 0] n) 105)):=(Below.refl _ _).alloc (Nat.le_refl _) _;have hf1:Nr (w.alloc (.cells (madeCells #[.slice none 0 0] n) 105)) w.heap.size w.heap.size n (jdW f n 0):=by rw [<-jlq];exact Nr.made w _ n (by unfold maxLen;omega)
 obtain⟨w1,hw1⟩:∃v,v=w.alloc (.cells (madeCells #[.slice none 0 0] n) 105):=⟨_,rfl⟩;rw [<-hw1] at hb1 hf1 ⊢;clear hw1 hmk;go_wp2_with fail;go_loopw [13] (λ i wr=>∃t:Nat,t<=n∧i= .int .i64 (t:Int)∧Nr wr w.heap.size w.heap.size n (jdW f n t)∧Below w.heap.size w wr) (λ i _=>n-(intOf i).toNat)
 case atStart=>exact⟨0,by omega,rfl,hf1,hb1⟩
 case round=>
  obtain⟨t,ht,rfl,hnr,hb⟩:=hrel;have NR:=qH hnr;have HB:=qH hb
  by_cases hlt:t<n
  ·have hti:(t:Int)<(n:Int):=by omega
   have hlk:=(H.out.later hb).look t (by omega);clear hnr hb hf1 hb1
   cases hq:f t with
   |none=>
    rw [hq] at hlk;have hlk:(Instr.lookup 249 (.map (some M)) (.int .i64 (t:Int)) true).run Tryz.prog wr= .ok (.tuple #[.agg (Sh.cs Sh.zero).toArray, .bool false]) wr:=hlk;have Hq:=qH hq;clear hq;obtain⟨w9,hw9⟩:∃w9,w9=wr.alloc (.cells (Sh.cs Sh.zero).toArray 244):=⟨_,rfl⟩;have hb9:Below wr.heap.size wr w9:=by rw [hw9];exact(Below.refl _ _).alloc (Nat.le_refl _) _
    have NR9:=qH (NR.out.later hb9);have HB9:=qH (HB.out.trans (hb9.mono HB.out.size));have Hw9:=qH hw9;clear hb9 hw9;go_wp2_with (first
     |(refine jaP ?_;refine jbj (o:=⟨none,_,_,_,_,_⟩) rfl (.tmp 7) (.tmp 20) rfl wr Sh.zero rfl rfl ?_;rw [<-Hw9.out]))
    go_roundw
    case rel=>exact⟨t+1,by omega,by go_num,by rw [<-jls Hq.out];exact NR9.out,HB9.out⟩
    case measure=>simp [intOf];omega
   |some s=>
    rw [hq] at hlk;have hlk:(Instr.lookup 249 (.map (some M)) (.int .i64 (t:Int)) true).run Tryz.prog wr= .ok (.tuple #[.agg s.cs.toArray, .bool true]) wr:=hlk;have Hq:=qH hq;clear hq;have hlen:=(HOK.out t s Hq.out).body;obtain⟨w9,hw9⟩:∃w9,w9=wr.alloc (.cells s.cs.toArray 244):=⟨_,rfl⟩;have hb9:Below wr.heap.size wr w9:=by rw [hw9];exact(Below.refl _ _).alloc (Nat.le_refl _) _
    have X9:ShB w9 wr.heap.size s:=by rw [hw9];exact ShB.new wr s
    have NR9:=qH (NR.out.later hb9);have HB9:=qH (HB.out.trans (hb9.mono HB.out.size));have Hw9:=qH hw9;obtain⟨⟨v,hv⟩,hz⟩:=NR9.out.cell hlt;have hsl:Sl w9 1 (some ⟨wr.heap.size,5,none⟩) s.body.length 44 (cells s.body):=by
     refine⟨by rw [jaa,Nat.mul_one],by omega,by decide,λ j u hu=>⟨wr.heap.size,5,rfl, ?_⟩⟩;have:=X9.text j u (by rw [jeQ hlen];exact hu);exact this
    have hbw:=HB.out.size;have hst:=NR9.out.store hlt (r:=s.body) hsl (λ b o _ e=>by injection e with e;injection e with e _;have:=NR.out.lt;omega);rw [jlr Hq.out,hlen] at hst;have ST:=qH hst;have HB10:=qH (HB9.out.setCell (p:=⟨w.heap.size,t,none⟩) (Nat.le_refl _) (.slice (some ⟨wr.heap.size,5,none⟩) 44 44));clear hb9 hw9 hst hsl hbw hlen X9;go_wp2_with (first
     |(refine jaP ?_;refine jbj (o:=⟨none,_,_,_,_,_⟩) rfl (.tmp 7) (.tmp 20) rfl wr s rfl rfl ?_;rw [<-Hw9.out]))
    go_roundw
    case rel=>exact⟨t+1,by omega,by go_num,ST.out,HB10.out⟩
    case measure=>simp [intOf];omega
  ·obtain rfl:t=n:=by omega
   clear hnr hb hf1 hb1;go_wp2_with fail;go_ret;exact⟨_,rfl,NR.out.gr,HB.out⟩
end
end
section
def sh13 (k:Nat)(kd:UInt8)(p g:Nat)(b:List UInt8)(i:Nat):Sh:=⟨kd,UInt8.ofNat i,p,g,b.length,jfN k b i⟩
section
variable {xs:List Dv}{k n N p g i:Nat}{kd:UInt8}{b:List UInt8}{G:Nat->Bool}
theorem jre (hr:RefOk kd p g b.length (44*k))(hk:1<=k):(sh13 k kd p g b i).Ok:=(jjv hr (jaX hk)).1
theorem jrf (hi:i<256):isB (sh13 k kd p g b i) kd (p:Int) g (i:Int)=true:=by
 refine decide_eq_true ⟨rfl,rfl,rfl, ?_⟩
 show ((UInt8.ofNat i).toNat:Int)=(i:Int)
 rw [UInt8.toNat_ofNat',Nat.mod_eq_of_lt (by omega)]
theorem Str.read (h:Str xs k n N kd p g b G)(hk:1<=k)(hr:RefOk kd p g b.length (44*k))(hp:p<N)(hi:i<n)(hn:n<=255){x:Dv}(hx:xs[jaW n p i]? =some x):
  (G (jaW n p i)=true∧getE (x.readL (p:Int))=0∧getS (x.readL (p:Int))=sh13 k kd p g b i)∨
  (G (jaW n p i)=false∧(getE (x.readL (p:Int))≠0∨(getE (x.readL (p:Int))=0∧isB (getS (x.readL (p:Int))) kd (p:Int) g (i:Int)=false)∨(getE (x.readL (p:Int))=0∧isB (getS (x.readL (p:Int))) kd (p:Int) g (i:Int)=true∧44*k<(getS (x.readL (p:Int))).size))):=by
 have his:=h.at_ _ x hx;have hix:idxN n p (jaW n p i)=i:=jeW hi;have hhas:x.has (p:Int):=jcO his.n hp
 cases hG:G (jaW n p i) with
 |true=>
  obtain⟨hg,hl⟩:=his.yes hG;have e:x.readL (p:Int)=secT kd p g b.length (jfN k b i) i:=by
   rw [Dv.readL_yes hg hhas,Int.toNat_natCast,hl,jib,hix]
  obtain⟨h1,h2⟩:=jks (i:=i) hr (jaX (b:=b) (i:=i) hk);rw [e];exact .inl ⟨rfl,h1,by rw [jcZ h1,h2];rfl⟩
 |false=>
  refine .inr ⟨rfl, ?_⟩
  by_cases hE:getE (x.readL (p:Int))=0
  ·refine .inr ?_
   have hnw:¬jg9 kd p g i (44*k) (x.readL (p:Int)):=by
    rcases his.no hG with hg|hw
    ·rintro⟨h1,_⟩
     rw [Dv.readL,if_pos hg,jeR (by decide)] at h1
     cases h1
    ·cases hg:x.gone
     ·rw [Dv.readL_yes hg hhas,Int.toNat_natCast]
      unfold jrs at hw
      rwa [hix] at hw
     ·rintro⟨h1,_⟩
      rw [Dv.readL,if_pos hg,jeR (by decide)] at h1
      cases h1
   rw [jcZ hE]
   cases hB:isB (jaC (x.readL (p:Int))) kd (p:Int) g (i:Int) with
   |false=>exact .inl ⟨hE,rfl⟩
   |true=>
    refine .inr ⟨hE,rfl, ?_⟩
    rcases Nat.lt_or_ge (44*k) (jaC (x.readL (p:Int))).size with q|q
    ·exact q
    ·exact absurd ⟨hE,hB,q⟩ hnw
  ·exact .inl hE
end
def mapF (k n:Nat)(kd:UInt8)(p g:Nat)(b:List UInt8)(G:Nat->Bool)(t i:Nat):Option Sh:=if i<t∧G (jaW n p i)=true then some (sh13 k kd p g b i) else none
def cntF (n p:Nat)(G:Nat->Bool)(t:Nat):Nat:=(List.range t).countP λ i=>G (jaW n p i)
section
variable {k n p g t:Nat}{kd:UInt8}{b:List UInt8}{G:Nat->Bool}
theorem jnu:(λ _=>none)=mapF k n kd p g b G 0:=by
 funext i
 rw [mapF,if_neg (by omega)]
theorem jnv:mapF k n kd p g b G t t=none:=by rw [mapF,if_neg (by omega)]
theorem jpv (h:G (jaW n p t)=true):(λ j=>if j=t then some (sh13 k kd p g b t) else mapF k n kd p g b G t j)=mapF k n kd p g b G (t+1):=by
 funext j
 unfold mapF
 by_cases e:j=t
 ·subst e
  rw [if_pos rfl,if_pos ⟨by omega,h⟩]
 ·rw [if_neg e]
  by_cases q:j<t∧G (jaW n p j)=true
  ·rw [if_pos q,if_pos ⟨by omega,q.2⟩]
  ·rw [if_neg q,if_neg (λ r=>q ⟨by omega,r.2⟩)]
theorem jjk (h:G (jaW n p t)=false):mapF k n kd p g b G t=mapF k n kd p g b G (t+1):=by
 funext j
 unfold mapF
 by_cases q:j<t∧G (jaW n p j)=true
 ·rw [if_pos q,if_pos ⟨by omega,q.2⟩]
 ·rw [if_neg q,if_neg (λ r=>q ⟨by
   rcases Nat.lt_or_ge j t with hj|hj
   ·exact hj
   ·obtain rfl:j=t:=by omega
    rw [h] at r;exact absurd r.2 (by decide),r.2⟩)]
theorem jpw (h:G (jaW n p t)=true):cntF n p G (t+1)=cntF n p G t+1:=by
 unfold cntF;rw [List.range_succ,List.countP_append];simp [h]
theorem jei (h:G (jaW n p t)=false):cntF n p G (t+1)=cntF n p G t:=by
 unfold cntF;rw [List.range_succ,List.countP_append];simp [h]
theorem jrg:cntF n p G t<=t:=by
 unfold cntF;have:=List.countP_le_length (p:=λ i=>G (jaW n p i)) (l:=List.range t)
 rwa [List.length_range] at this
theorem jkj:cntF n p G n=cntG n G:=jia n p G
theorem jpx:jdW (mapF k n kd p g b G n) n n=got k n p b G:=by
 unfold jdW got;refine List.map_congr_left λ i hi=> ?_
 have hi:=List.mem_range.1 hi;rw [if_pos hi,jpu,mapF]
 by_cases h:G (jaW n p i)=true
 ·rw [if_pos ⟨hi,h⟩,if_pos h];rfl
 ·rw [if_neg (λ q=>h q.2),if_neg h]
theorem jrh (hr:RefOk kd p g b.length (44*k))(hk:1<=k):∀i s,mapF k n kd p g b G t i=some s->s.Ok:=by
 intro i s h;unfold mapF at h
 split at h
 ·injection h with h
  rw [<-h];exact jre hr hk
 ·cases h
end
theorem jbi {ρ:Operand->Value}{o:Oper}{x:Operand}{w:World}{b:Nat}{s:Sh}(ho:o.op= .load 244 x)(hx:ρ x= .pointer (some ⟨b,0,none⟩))(h:ShB w b s):(execOp ρ o).run Tryz.prog w= .ok (.value (.agg s.cs.toArray)) w:=by
 unfold execOp;simp only [ho,hx,Instr.loadAt,Instr.sureAddr,Sem.run_bind,Sem.run_pure,Result.andThen_ok,run_loadVar_row w b _ 244 s.cs.toArray (0,0) _ h Tryz.underlying244 rfl (jba s)]
theorem jnw {ρ:Operand->Value}{o:Oper}{x y:Operand}{w:World}{a b:Int}{t u:TypeId}(ho:o.op= .binOp .neq t x y u)(hx:ρ x= .int .i64 a)(hy:ρ y= .int .i64 b)(hr:¬a=b):(execOp ρ o).run Tryz.prog w= .ok (.value (.bool true)) w:=by
 unfold execOp;simp [ho,hx,hy,go_sem,hr]
theorem jnx (a b c:Value):(Tryz.prog.info? 109).map (·.size)=some ([a,b,c]:List Value).length:=by
 show _=some 3
 kernel_rfl
theorem jc2 {ρ:Operand->Value}{o:Oper}{x:Operand}{w:World}{B A C p g:Nat}{kd:UInt8}(ho:o.op= .load 109 x)(hx:ρ x= .pointer (some ⟨B,2,none⟩))(h:StB w B A C kd p g):(execOp ρ o).run Tryz.prog w= .ok (.value (.agg #[.int .u8 (kd.toNat:Int), .int .i64 (p:Int), .int .u64 (g:Int)])) w:=by
 have hr:w.rangeAt B 2 [.int .u8 (kd.toNat:Int), .int .i64 (p:Int), .int .u64 (g:Int)]:=λ j v hv=>by
  rcases j with _|_|_|j
  ·simp at hv;subst hv;exact h.c2
  ·simp at hv;subst hv;exact h.c3
  ·simp at hv;subst hv;exact h.c4
  ·simp at hv
 unfold execOp;simp only [ho,hx,Instr.loadAt,Instr.sureAddr,Sem.run_bind,Sem.run_pure,Result.andThen_ok,run_loadVar_mid w B 2 109 _ _ hr Tryz.underlying109 rfl (jnx _ _ _)]
theorem jjl {w:World}{C k m F T R:Nat}(h:Cod w C k m F T)(hR:R=44*k):Calls Tryz.prog 88 #[.pointer (some ⟨C,0,none⟩)] w λ e w' =>e= .returned (.int .i64 (R:Int))∧w' =w:=by
 subst hR;exact jfB h
section
variable {Rep:World->(Nat->Prop)->Nat->Dv->Prop}{w:World}{S:Nat->Prop}{A C k m F T N p g:Nat}{kd:UInt8}{xs:List Dv}{b:List UInt8}{G:Nat->Bool}
def RetWh (k n:Nat)(kd:UInt8)(p g:Nat)(b:List UInt8)(G:Nat->Bool)(w:World)(e:Ending)(w':World):Prop:=∃(M z:Nat),e= .returned (.tuple #[.map (some M), .int .u16 (z:Int)])∧Mv w' M (cntG n G) (mapF k n kd p g b G n)∧(0<cntG n G->z=b.length)∧z<65536∧w.heap.size<=M∧Below w.heap.size w w'
theorem jhZ (DK:DrvK Rep)(h:Ac13 Rep w S A C k m F T N xs)(hr:RefOk kd p g b.length (44*k))(hp:p<N)(hs:Str xs k (k+m) N kd p g b G):
  Calls Tryz.prog 153 #[.agg #[.pointer (some ⟨A,0,none⟩), .pointer (some ⟨C,0,none⟩), .int .u8 (kd.toNat:Int), .int .i64 (p:Int), .int .u64 (g:Int)]] w (RetWh k (k+m) kd p g b G w):=by
 obtain⟨n,hn⟩:∃n,n=k+m:=⟨_,rfl⟩;obtain⟨R,hR⟩:∃R,R=44*k:=⟨_,rfl⟩;have hk1:=h.c.k1;have hq1:1<=n:=by have:=h.c.k1;omega
 have hq2:n<=255:=by have:=h.c.n255;omega
 have hlen:xs.length=n:=by rw [h.len,hn]
 have hR2:R<65536:=by rw [hR];exact hr.R
 rw [<-hn] at hs ⊢;have hp9:p<9223372036854775808:=by have:=hr.p;omega
 have AC:=qH h;have HRo:=qH hr;have HS:=qH hs;have Hn:=qH hn;have HR:=qH hR;have Hlen:=qH hlen;have Hp:=qH hp;have Hb:=qH (show b.length<65536 from by have:=hr.z;omega);have HK1:=qH hk1;have hzv:=jcn;have hrow:∀w',Below w.heap.size w w' ->Calls Tryz.prog 210 #[.pointer (some ⟨A,0,none⟩), .int .i64 (p:Int)] w' λ e w'' =>∃A' c',e= .returned (.slice A' n c')∧Ns cells w'' (λ b=>w'.heap.size<=b) A' n c' (jhQ xs (p:Int))∧Below w'.heap.size w' w'' :=λ w' q=>by
  have:=jnj DK (h.a.later DK.lay q) (p:Int) (by omega) (by omega) (h.wl.mono13 (by decide)) (by omega);unfold jq6 at this
  rwa [jgV,hlen] at this
 have HRW:=qH hrow;clear h hr hs hn hR hlen hp hrow hk1;have hmm:=run_makeMap (P:=Tryz.prog) 249 (w.alloc (.cells #[.pointer (some ⟨A,0,none⟩), .pointer (some ⟨C,0,none⟩), .int .u8 (kd.toNat:Int), .int .i64 (p:Int), .int .u64 (g:Int)] 181));rw [show (w.alloc (.cells #[.pointer (some ⟨A,0,none⟩), .pointer (some ⟨C,0,none⟩), .int .u8 (kd.toNat:Int), .int .i64 (p:Int), .int .u64 (g:Int)] 181)).heap.size=w.heap.size+1 from by simp] at hmm;go_enter Tryz.func153,Tryz.ntmps153;go_wp2_with fail;clear hmm;have hnew:StB ((w.alloc (.cells #[.pointer (some ⟨A,0,none⟩), .pointer (some ⟨C,0,none⟩), .int .u8 (kd.toNat:Int), .int .i64 (p:Int), .int .u64 (g:Int)] 181)).alloc (.map #[] 0)) w.heap.size A C kd p g:=((Below.refl _ _).alloc (Nat.le_refl _) _).block _ (by simp) |>.trans (heap_alloc_new w _)
 have hb0:Below w.heap.size w ((w.alloc (.cells #[.pointer (some ⟨A,0,none⟩), .pointer (some ⟨C,0,none⟩), .int .u8 (kd.toNat:Int), .int .i64 (p:Int), .int .u64 (g:Int)] 181)).alloc (.map #[] 0)):=((Below.refl _ _).alloc (Nat.le_refl _) _).alloc (by simp) _;have hmv:Mv ((w.alloc (.cells #[.pointer (some ⟨A,0,none⟩), .pointer (some ⟨C,0,none⟩), .int .u8 (kd.toNat:Int), .int .i64 (p:Int), .int .u64 (g:Int)] 181)).alloc (.map #[] 0)) (w.heap.size+1) 0 (mapF k n kd p g b G 0):=by
  have:=Mv.made (w.alloc (.cells #[.pointer (some ⟨A,0,none⟩), .pointer (some ⟨C,0,none⟩), .int .u8 (kd.toNat:Int), .int .i64 (p:Int), .int .u64 (g:Int)] 181));rw [show (w.alloc (.cells #[.pointer (some ⟨A,0,none⟩), .pointer (some ⟨C,0,none⟩), .int .u8 (kd.toNat:Int), .int .i64 (p:Int), .int .u64 (g:Int)] 181)).heap.size=w.heap.size+1 from by simp,jnu (k:=k) (n:=n) (kd:=kd) (p:=p) (g:=g) (b:=b) (G:=G)] at this;exact this
 have hz1:((w.alloc (.cells #[.pointer (some ⟨A,0,none⟩), .pointer (some ⟨C,0,none⟩), .int .u8 (kd.toNat:Int), .int .i64 (p:Int), .int .u64 (g:Int)] 181)).alloc (.map #[] 0)).heap.size=w.heap.size+2:=by simp
 obtain⟨w1,hw1⟩:∃x,x=(w.alloc (.cells #[.pointer (some ⟨A,0,none⟩), .pointer (some ⟨C,0,none⟩), .int .u8 (kd.toNat:Int), .int .i64 (p:Int), .int .u64 (g:Int)] 181)).alloc (.map #[] 0):=⟨_,rfl⟩;rw [<-hw1] at hnew hb0 hmv hz1 ⊢;obtain⟨M,hM⟩:∃M,M=w.heap.size+1:=⟨_,rfl⟩;rw [<-hM] at hmv ⊢;obtain⟨B,hB⟩:∃B,B=w.heap.size:=⟨_,rfl⟩;have c0:=hnew.c0;have c1:=hnew.c1;have c3:=hnew.c3;rw [<-hB] at hnew c0 c1 c3 ⊢;have Hs:=qH hnew;have B1:=qH hb0;have MV1:=qH hmv;have HBM:=qH (show M=w.heap.size+1∧B=w.heap.size∧w1.heap.size=w.heap.size+2 from ⟨hM,hB,hz1⟩);clear hw1 hnew hb0 hmv hM hB hz1;go_wp2_with fail;refine(HRW.out w1 B1.out).mono ?_;rintro e w2 ⟨Ar,cr,rfl,hns,hb2⟩;have B2:=qH (B1.out.trans (hb2.mono B1.out.size));have NS:=qH hns;have MV2:=qH (MV1.out.later hb2);have Hs2:=qH (Hs.out.later hb2);have C2:=qH (AC.out.c.later B2.out);have N2:=qH (AC.out.nt.keep B2.out)
 have HNM:=qH (show ∀x,w1.heap.size<=x->¬x=M from λ x q r=>by have:=HBM.out;omega);have c1:=Hs2.out.c1;have hpos2:=hb2.size;clear hns hb2 c0 c3;go_wp2_with fail;refine(cn13 C2.out Hn.out).mono ?_;rintro e w3 ⟨rfl,hb3⟩;have B3:=qH (B2.out.trans (hb3.mono B2.out.size));have NS3:=qH (NS.out.later hb3);have MV3:=qH (MV2.out.later hb3);have Hs3:=qH (Hs2.out.later hb3);have C3:=qH (C2.out.later hb3);have N3:=qH (N2.out.keep hb3);have HMb:=qH (show ¬B=M∧¬C=M∧¬F=M∧¬T=M∧¬0=M from by
  have e:=HBM.out;have h1:=block_lt AC.out.c.row;have h2:=World.block_lt_of_cell? w _ AC.out.c.fld.cell;have h3:=AC.out.c.fld.fld.ltT;have h4:=AC.out.nt.lt13;refine⟨by omega,by omega, ?_,by omega,by omega⟩;intro q;have h2:F<w.heap.size:=h2;omega)
 clear hb3 c1;go_wp2_with fail;go_loopw [5,20] (λ v i wr=>∃(t z:Nat),t<=n∧i= .int .i64 (t:Int)∧v= .int .u16 (z:Int)∧z<65536∧Mv wr M (cntF n p G t) (mapF k n kd p g b G t)∧(0<cntF n p G t->z=b.length)∧Fr (λ b=>b=M) w3 wr) (λ _ i _=>n-(intOf i).toNat)
 case atStart=>exact⟨0,0,by omega,rfl,rfl,by decide,MV3.out,λ h=>absurd h (by unfold cntF;simp),Fr.refl _ _⟩
 case round=>
  obtain⟨t,z,ht,rfl,rfl,hz,hmv,hzb,hf⟩:=hrel;have MVr:=qH hmv;have HZ:=qH hzb;have Hf:=qH hf;have Br:=qH (B3.out.trans (hf.below (by have:=B3.out.size;omega) (λ x q=>by have q:x=M:=q;have:=HBM.out;omega)))
  by_cases hlt:t<n
  ·have hti:(t:Int)<(n:Int):=by omega
   have Hsr:=qH (Hs3.out.fr hf HMb.out.1);have Cr:=qH (C3.out.fr hf HMb.out.2.1 HMb.out.2.2.1 HMb.out.2.2.2.1);have Nr:=qH (N3.out.fr13 hf HMb.out.2.2.2.2);have NSr:=qH (NS3.out.fr hf (λ x q=>HNM.out x q));obtain⟨d,hd⟩:∃d,d=jaW n p t:=⟨_,rfl⟩;have hdn:d<n:=by rw [hd];exact jju (by omega)
   obtain⟨x,hx⟩:∃x,xs[d]? =some x:=⟨_,List.getElem?_eq_getElem (by rw [Hlen.out];exact hdn)⟩;have hcase:=HS.out.read HK1.out HRo.out Hp.out hlt hq2 (x:=x) (by rw [<-hd];exact hx);rw [<-hd] at hcase;obtain⟨l,hl⟩:∃l,l=x.readL (p:Int):=⟨_,rfl⟩;rw [<-hl] at hcase;have hrl:(jhQ xs (p:Int))[d]? =some l:=by rw [jni hx,hl]
   obtain⟨s,hs⟩:∃s,s=getS l:=⟨_,rfl⟩;obtain⟨E,hE⟩:∃E,E=getE l:=⟨_,rfl⟩;rw [<-hs,<-hE] at hcase;have SOK:=qH (show s.Ok from by rw [hs];exact jq7 l);have Hdh:=qH hd;have Hrl:=qH hrl;have Hse:=qH (show s=getS l∧E=getE l from ⟨hs,hE⟩);have hcase:=qH hcase;clear hd hx hl hrl hs hE hmv hzb hf;go_wp2_with (refine jaJ (d:=25) ?_;refine jas (o:=⟨some 25,_,_,_,_,_⟩) rfl _ wr (jco (x:= .tmp 1) rfl rfl Hsr.out) ?_);refine(jgt (A:=A) (kd:=kd) (g:=g) Cr.out Hn.out hp9 (show t<9223372036854775808 by omega)).mono ?_;rintro e w4 ⟨rfl,hb4⟩;rw [<-Hdh.out];have B4:=qH (Br.out.trans (hb4.mono Br.out.size));have hdi:(d:Int)<(n:Int):=by omega
   have F4:=qH (Hf.out.trans (Fr.of_below hb4:Fr (λ b=>b=M) wr w4));have Hs4:=qH (Hsr.out.later hb4);have C4:=qH (Cr.out.later hb4);have N4:=qH (Nr.out.keep hb4);have M4:=qH (MVr.out.later hb4);obtain⟨bR,oR,rfl,_,hcR⟩:=(NSr.out.later hb4).at_ (by omega);obtain⟨A5,c5,hc5,hs5,_⟩:=hcR d l Hrl.out;have hg:=jpp A5 l.length c5 l w4 hs5 N4.out;rw [<-Hse.out.1,<-Hse.out.2] at hg;clear hb4 hcR hs5;go_wp2_with fail;refine hg.mono ?_;clear hg;rintro e w5 ⟨rfl,hb5⟩;have B5:=qH (B4.out.trans (hb5.mono B4.out.size));have F5:=qH (F4.out.trans (Fr.of_below hb5:Fr (λ b=>b=M) w4 w5));have Hs5:=qH (Hs4.out.later hb5);have C5:=qH (C4.out.later hb5);have M5:=qH (M4.out.later hb5);obtain⟨w6,hw6⟩:∃u,u=w5.alloc (.cells s.cs.toArray 244):=⟨_,rfl⟩;have hb6:Below w5.heap.size w5 w6:=by rw [hw6];exact(Below.refl _ _).alloc (Nat.le_refl _) _
   have X6:=qH (show ShB w6 w5.heap.size s by rw [hw6];exact ShB.new w5 s);have B6:=qH (B5.out.trans (hb6.mono B5.out.size));have F6:=qH (F5.out.trans (Fr.of_below hb6:Fr (λ b=>b=M) w5 w6));have Hs6:=qH (Hs5.out.later hb6);have C6:=qH (C5.out.later hb6);have M6:=qH (M5.out.later hb6);have Hw6:=qH hw6;have HDM:=qH (show ¬w5.heap.size=M from by have:=M5.out.lt;omega);clear hb5 hb6 hw6 hc5;go_wp2_with (first
    |(refine jaP ?_;refine jbj (o:=⟨none,_,_,_,_,_⟩) rfl (.tmp 8) (.tmp 31) rfl w5 s rfl rfl ?_;rw [<-Hw6.out]))
   obtain⟨D,hD⟩:∃D,D=w5.heap.size:=⟨_,rfl⟩;rw [<-hD] at X6 HDM ⊢;clear hD Hw6 B4 B5 F4 F5 Hs4 Hs5 C4 C5 M4 M5 N4 Hrl Hse Hsr Cr Nr NSr MVr Br Hf
   rcases hcase.out with ⟨hG,hE0,hsh⟩|⟨hG,hE0|⟨hE0,hB⟩|⟨hE0,hB,hbig⟩⟩
   ·subst hE0
    have hwz:IntKind.i64.wrap (s.size:Int)=(s.size:Int):=by rw [IntKind.wrap_i64];have:=SOK.out.size;omega
    have hB:isB s kd (p:Int) g (t:Int)=true:=by rw [hsh];exact jrf (by omega)
    have hle:¬(R:Int)<(s.size:Int):=by
     have e:s.size=b.length:=by rw [hsh];rfl
     have:=HRo.out.z;rw [e,HR.out];omega
    have Hsz:=qH (show s.size=b.length from by rw [hsh];rfl);have Hsh:=qH hsh;have HG:=qH (show G (jaW n p t)=true from Hdh.out▸hG);clear hsh hG;refine wp_region_held_drew (S:=λ w' =>Fr (λ _=>False) w6.drew w') (by kernel_rfl) (Fr.refl _ _) (λ hHeld=> ?_);clear hHeld;refine tA 0 (some 33) rfl (Fr.refl _ _) ?_;refine tA 1 (some 34) rfl (Fr.refl _ _) ?_;refine tA 2 (some 35) rfl (Fr.refl _ _) ?_;refine tL 3 (some 36) (v:=(.agg s.cs.toArray)) rfl ?ywd3 (Fr.refl _ _) ?rwd3
    case ywd3=>
     intro wq hSw;exact jbi (x:= .tmp 8) rfl rfl (ShB.fr (S:=λ _=>False) (show ShB w6.drew D s from X6.out) hSw (λ h=>h))
    try simp only [Act.put,sA,sB,sC]
    refine tA 4 (some 37) rfl (Fr.refl _ _) ?_;refine tL 5 (some 38) (v:=(.agg #[.int .u8 (kd.toNat:Int), .int .i64 (p:Int), .int .u64 (g:Int)])) rfl ?ywd5 (Fr.refl _ _) ?rwd5
    case ywd5=>
     intro wq hSw;exact jc2 (x:= .tmp 37) rfl rfl (StB.fr (S:=λ _=>False) (show StB w6.drew B A C kd p g from Hs6.out) hSw (λ h=>h))
    try simp only [Act.put,sA,sB,sC]
    refine tA 6 (some 39) rfl (Fr.refl _ _) ?_;refine rW 7 (some 40) rfl λ K hK=> ?_
    go_simp;have hh:=jnl s SOK.out kd (p:Int) g (t:Int) w6.drew;rw [hB] at hh;refine hh.mono ?_;clear hh;rintro e w7 ⟨rfl,hb7⟩;have hfr:Fr (λ _=>False) w6.drew w7:=Fr.of_below hb7;have hbb:Below w6.heap.size w6 w7:=(Below.drew (Below.refl w6.heap.size w6)).trans hb7;have B7:=qH (B6.out.trans (hbb.mono B6.out.size));have F7:=qH (F6.out.trans (Fr.of_below hbb:Fr (λ b=>b=M) w6 w7));have M7:=qH (M6.out.later hbb);have C7:=qH (C6.out.later hbb);have X7:=qH (X6.out.later hbb);have Hs7:=qH (Hs6.out.later hbb);clear hb7 hbb;go_wp2_with fail;refine hK.out _ _ hfr (λ hHeld=> ?_);clear hK K hHeld
    try simp only [Act.put,sA,sB,sC]
    refine jac (S':=λ w' =>Fr (λ _=>False) w7 w') (λ w' h=>hfr.trans h) ?_;clear hfr;refine tA 8 (some 41) rfl (Fr.refl _ _) ?_;refine tA 9 (some 42) rfl (Fr.refl _ _) ?_;refine tA 10 (some 43) rfl (Fr.refl _ _) ?_;refine tA 11 (some 44) rfl (Fr.refl _ _) ?_;refine tL 12 (some 45) (v:= ?vwd12) rfl ?ywd12 (Fr.refl _ _) ?rwd12
    case ywd12=>
     intro wq hSw
     (try dsimp only at hSw)
     have hq:=hSw.cell_some X7.out.z (λ h=>h);go_simp<;>with_reducible rfl
    try simp only [Act.put,sA,sB,sC]
    refine tA 13 (some 46) rfl (Fr.refl _ _) ?_;refine tA 14 (some 47) rfl (Fr.refl _ _) ?_;refine tL 15 (some 48) (v:= ?vwd15) rfl ?ywd15 (Fr.refl _ _) ?rwd15
    case ywd15=>
     intro wq hSw
     (try dsimp only at hSw)
     have hq:=hSw.cell_some Hs7.out.c1 (λ h=>h);go_simp<;>with_reducible rfl
    try simp only [Act.put,sA,sB,sC]
    refine rW 16 (some 49) rfl λ K hK=> ?_
    go_simp;refine(jjl C7.out HR.out).mono ?_;rintro e w8 ⟨rfl,hw8⟩;subst hw8;have hfr:Fr (λ _=>False) w8 w8:=Fr.refl _ _;go_wp2_with fail;refine hK.out _ _ hfr (λ hHeld=> ?_);clear hK K hHeld
    try simp only [Act.put,sA,sB,sC]
    refine jac (S':=λ w' =>Fr (λ _=>False) w8 w') (λ w' h=>hfr.trans h) ?_;clear hfr;refine tA 17 (some 50) rfl (Fr.refl _ _) ?_;refine tA 18 (some 51) rfl (Fr.refl _ _) ?_;refine tD ?_;have hln:=M7.out.len 3;have xz:=X7.out.z;have hsz9:cntF n p G t=0∨(((cntF n p G t:Nat):Int)==0)=false:=by
     rcases Nat.eq_zero_or_pos (cntF n p G t) with q|q
     ·exact .inl q
     ·exact .inr (by simp;omega)
    obtain⟨w9,hup,hfu,hmu⟩:=M7.out.upd t (by omega) jnv (by have:=jrg (n:=n) (p:=p) (G:=G) (t:=t);omega) s;have HMU:=qH (show Mv w9 M (cntF n p G (t+1)) (mapF k n kd p g b G (t+1)) from by rw [jpw HG.out,<-jpv HG.out,<-Hsh.out];exact hmu);have F9:=qH (F7.out.trans hfu);clear hfu hmu hB;obtain⟨y,hy⟩:∃y,y=s.size:=⟨_,rfl⟩;rw [<-hy] at xz;have Hy:=qH (show y=b.length from hy.trans Hsz.out);have hy2:y<65536:=by rw [hy,Hsz.out];exact Hb.out
    clear hy;obtain⟨c,hc⟩:∃c,c=cntF n p G t:=⟨_,rfl⟩;rw [<-hc] at hln hsz9;have Hc:=qH hc;clear hc
    rcases hsz9 with rfl|hcn
    ·go_wp2_with (first
      |(refine jaJ (d:=63) ?_;refine jas (o:=⟨some 63,_,_,_,_,_⟩) rfl _ w8 (jbi (x:= .tmp 8) rfl rfl X7.out) ?_))
     go_roundw
     case rel=>exact⟨t+1,y,by omega,by go_num,rfl,hy2,HMU.out,λ _=>Hy.out,F9.out⟩
     case measure=>simp [intOf];omega
    ·have hzy:z=y:=by
      have hcn:¬(c:Int)=0:=by simpa using hcn
      first|exact HZ.out.trans Hy.out.symm|exact(HZ.out (by have:=Hc.out;omega)).trans Hy.out.symm
     subst hzy;go_wp2_with (first
      |(refine jaJ (d:=63) ?_;refine jas (o:=⟨some 63,_,_,_,_,_⟩) rfl _ w8 (jbi (x:= .tmp 8) rfl rfl X7.out) ?_))
     go_roundw
     case rel=>exact⟨t+1,z,by omega,by go_num,rfl,hy2,HMU.out,λ _=>Hy.out,F9.out⟩
     case measure=>simp [intOf];omega
   ·have hE1:¬(E:Int)=0:=by omega
    clear hE0;have HM:=qH (show Mv w6.drew M (cntF n p G (t+1)) (mapF k n kd p g b G (t+1)) from by rw [jei (Hdh.out▸hG),<-jjk (Hdh.out▸hG)];exact M6.out.later (Below.drew (Below.refl _ _)));have HC:=qH (show 0<cntF n p G (t+1)->z=b.length from by rw [jei (Hdh.out▸hG)];exact HZ.out);clear hG;refine wp_region_held_drew (S:=λ w' =>Fr (λ _=>False) w6.drew w') (by kernel_rfl) (Fr.refl _ _) (λ hHeld=> ?_);clear hHeld;refine tA 0 (some 33) rfl (Fr.refl _ _) ?_;refine tL 1 (some 34) (v:=(.bool true)) rfl ?ywa1 (Fr.refl _ _) ?rwa1
    case ywa1=>
     intro wq hSw;exact jnw (x:= .tmp 33) (y:= .const (.int .i64 0)) rfl rfl rfl hE1
    try simp only [Act.put,sA,sB,sC]
    refine tA 2 (some 35) rfl (Fr.refl _ _) ?_;refine tU 3 (some 36) rfl (Fr.refl _ _) ?_;refine tU 4 (some 37) rfl (Fr.refl _ _) ?_;refine tU 5 (some 38) rfl (Fr.refl _ _) ?_;refine tU 6 (some 39) rfl (Fr.refl _ _) ?_;refine tU 7 (some 40) rfl (Fr.refl _ _) ?_;refine tU 8 (some 41) rfl (Fr.refl _ _) ?_;refine tA 9 (some 42) rfl (Fr.refl _ _) ?_;refine tA 10 (some 43) rfl (Fr.refl _ _) ?_;refine tU 11 (some 44) rfl (Fr.refl _ _) ?_;refine tU 12 (some 45) rfl (Fr.refl _ _) ?_;refine tU 13 (some 46) rfl (Fr.refl _ _) ?_;refine tU 14 (some 47) rfl (Fr.refl _ _) ?_;refine tU 15 (some 48) rfl (Fr.refl _ _) ?_;refine tU 16 (some 49) rfl (Fr.refl _ _) ?_;refine tU 17 (some 50) rfl (Fr.refl _ _) ?_;refine tA 18 (some 51) rfl (Fr.refl _ _) ?_;refine tD ?_;go_wp2_with fail;go_roundw
    case rel=>exact⟨t+1,z,by omega,by go_num,rfl,hz,HM.out,HC.out,F6.out.trans (Fr.drew (Fr.refl _ _))⟩
    case measure=>simp [intOf];omega
   ·subst hE0
    refine wp_region_held_drew (S:=λ w' =>Fr (λ _=>False) w6.drew w') (by kernel_rfl) (Fr.refl _ _) (λ hHeld=> ?_);clear hHeld;refine tA 0 (some 33) rfl (Fr.refl _ _) ?_;refine tA 1 (some 34) rfl (Fr.refl _ _) ?_;refine tA 2 (some 35) rfl (Fr.refl _ _) ?_;refine tL 3 (some 36) (v:=(.agg s.cs.toArray)) rfl ?ywb3 (Fr.refl _ _) ?rwb3
    case ywb3=>
     intro wq hSw;exact jbi (x:= .tmp 8) rfl rfl (ShB.fr (S:=λ _=>False) (show ShB w6.drew D s from X6.out) hSw (λ h=>h))
    try simp only [Act.put,sA,sB,sC]
    refine tA 4 (some 37) rfl (Fr.refl _ _) ?_;refine tL 5 (some 38) (v:=(.agg #[.int .u8 (kd.toNat:Int), .int .i64 (p:Int), .int .u64 (g:Int)])) rfl ?ywb5 (Fr.refl _ _) ?rwb5
    case ywb5=>
     intro wq hSw;exact jc2 (x:= .tmp 37) rfl rfl (StB.fr (S:=λ _=>False) (show StB w6.drew B A C kd p g from Hs6.out) hSw (λ h=>h))
    try simp only [Act.put,sA,sB,sC]
    refine tA 6 (some 39) rfl (Fr.refl _ _) ?_;refine rW 7 (some 40) rfl λ K hK=> ?_
    go_simp;have hh:=jnl s SOK.out kd (p:Int) g (t:Int) w6.drew;rw [hB] at hh;refine hh.mono ?_;clear hh;rintro e w7 ⟨rfl,hb7⟩;have hfr:Fr (λ _=>False) w6.drew w7:=Fr.of_below hb7;have hbb:Below w6.heap.size w6 w7:=(Below.drew (Below.refl w6.heap.size w6)).trans hb7;have B7:=qH (B6.out.trans (hbb.mono B6.out.size));have F7:=qH (F6.out.trans (Fr.of_below hbb:Fr (λ b=>b=M) w6 w7));have M7:=qH (M6.out.later hbb);have C7:=qH (C6.out.later hbb);have X7:=qH (X6.out.later hbb);have Hs7:=qH (Hs6.out.later hbb);clear hb7 hbb;go_wp2_with fail;refine hK.out _ _ hfr (λ hHeld=> ?_);clear hK K hHeld
    try simp only [Act.put,sA,sB,sC]
    refine jac (S':=λ w' =>Fr (λ _=>False) w7 w') (λ w' h=>hfr.trans h) ?_;clear hfr;refine tA 8 (some 41) rfl (Fr.refl _ _) ?_;refine tA 9 (some 42) rfl (Fr.refl _ _) ?_;refine tA 10 (some 43) rfl (Fr.refl _ _) ?_;refine tU 11 (some 44) rfl (Fr.refl _ _) ?_;refine tU 12 (some 45) rfl (Fr.refl _ _) ?_;refine tU 13 (some 46) rfl (Fr.refl _ _) ?_;refine tU 14 (some 47) rfl (Fr.refl _ _) ?_;refine tU 15 (some 48) rfl (Fr.refl _ _) ?_;refine tU 16 (some 49) rfl (Fr.refl _ _) ?_;refine tU 17 (some 50) rfl (Fr.refl _ _) ?_;refine tA 18 (some 51) rfl (Fr.refl _ _) ?_;refine tD ?_;have HM:=qH (show Mv w7 M (cntF n p G (t+1)) (mapF k n kd p g b G (t+1)) from by rw [jei (Hdh.out▸hG),<-jjk (Hdh.out▸hG)];exact M7.out);have HC:=qH (show 0<cntF n p G (t+1)->z=b.length from by rw [jei (Hdh.out▸hG)];exact HZ.out);clear hG;go_wp2_with fail;go_roundw
    case rel=>exact⟨t+1,z,by omega,by go_num,rfl,hz,HM.out,HC.out,F7.out⟩
    case measure=>simp [intOf];omega
   ·subst hE0
    have hwz:IntKind.i64.wrap (s.size:Int)=(s.size:Int):=by rw [IntKind.wrap_i64];have:=SOK.out.size;omega
    have hbg:(R:Int)<(s.size:Int):=by rw [HR.out];omega
    clear hbig;refine wp_region_held_drew (S:=λ w' =>Fr (λ _=>False) w6.drew w') (by kernel_rfl) (Fr.refl _ _) (λ hHeld=> ?_);clear hHeld;refine tA 0 (some 33) rfl (Fr.refl _ _) ?_;refine tA 1 (some 34) rfl (Fr.refl _ _) ?_;refine tA 2 (some 35) rfl (Fr.refl _ _) ?_;refine tL 3 (some 36) (v:=(.agg s.cs.toArray)) rfl ?ywc3 (Fr.refl _ _) ?rwc3
    case ywc3=>
     intro wq hSw;exact jbi (x:= .tmp 8) rfl rfl (ShB.fr (S:=λ _=>False) (show ShB w6.drew D s from X6.out) hSw (λ h=>h))
    try simp only [Act.put,sA,sB,sC]
    refine tA 4 (some 37) rfl (Fr.refl _ _) ?_;refine tL 5 (some 38) (v:=(.agg #[.int .u8 (kd.toNat:Int), .int .i64 (p:Int), .int .u64 (g:Int)])) rfl ?ywc5 (Fr.refl _ _) ?rwc5
    case ywc5=>
     intro wq hSw;exact jc2 (x:= .tmp 37) rfl rfl (StB.fr (S:=λ _=>False) (show StB w6.drew B A C kd p g from Hs6.out) hSw (λ h=>h))
    try simp only [Act.put,sA,sB,sC]
    refine tA 6 (some 39) rfl (Fr.refl _ _) ?_;refine rW 7 (some 40) rfl λ K hK=> ?_
    go_simp;have hh:=jnl s SOK.out kd (p:Int) g (t:Int) w6.drew;rw [hB] at hh;refine hh.mono ?_;clear hh;rintro e w7 ⟨rfl,hb7⟩;have hfr:Fr (λ _=>False) w6.drew w7:=Fr.of_below hb7;have hbb:Below w6.heap.size w6 w7:=(Below.drew (Below.refl w6.heap.size w6)).trans hb7;have B7:=qH (B6.out.trans (hbb.mono B6.out.size));have F7:=qH (F6.out.trans (Fr.of_below hbb:Fr (λ b=>b=M) w6 w7));have M7:=qH (M6.out.later hbb);have C7:=qH (C6.out.later hbb);have X7:=qH (X6.out.later hbb);have Hs7:=qH (Hs6.out.later hbb);clear hb7 hbb;go_wp2_with fail;refine hK.out _ _ hfr (λ hHeld=> ?_);clear hK K hHeld
    try simp only [Act.put,sA,sB,sC]
    refine jac (S':=λ w' =>Fr (λ _=>False) w7 w') (λ w' h=>hfr.trans h) ?_;clear hfr;refine tA 8 (some 41) rfl (Fr.refl _ _) ?_;refine tA 9 (some 42) rfl (Fr.refl _ _) ?_;refine tA 10 (some 43) rfl (Fr.refl _ _) ?_;refine tA 11 (some 44) rfl (Fr.refl _ _) ?_;refine tL 12 (some 45) (v:= ?vwc12) rfl ?ywc12 (Fr.refl _ _) ?rwc12
    case ywc12=>
     intro wq hSw
     (try dsimp only at hSw)
     have hq:=hSw.cell_some X7.out.z (λ h=>h);go_simp<;>with_reducible rfl
    try simp only [Act.put,sA,sB,sC]
    refine tA 13 (some 46) rfl (Fr.refl _ _) ?_;refine tA 14 (some 47) rfl (Fr.refl _ _) ?_;refine tL 15 (some 48) (v:= ?vwc15) rfl ?ywc15 (Fr.refl _ _) ?rwc15
    case ywc15=>
     intro wq hSw
     (try dsimp only at hSw)
     have hq:=hSw.cell_some Hs7.out.c1 (λ h=>h);go_simp<;>with_reducible rfl
    try simp only [Act.put,sA,sB,sC]
    refine rW 16 (some 49) rfl λ K hK=> ?_
    go_simp;refine(jjl C7.out HR.out).mono ?_;rintro e w8 ⟨rfl,hw8⟩;subst hw8;have hfr:Fr (λ _=>False) w8 w8:=Fr.refl _ _;go_wp2_with fail;refine hK.out _ _ hfr (λ hHeld=> ?_);clear hK K hHeld
    try simp only [Act.put,sA,sB,sC]
    refine jac (S':=λ w' =>Fr (λ _=>False) w8 w') (λ w' h=>hfr.trans h) ?_;clear hfr;refine tA 17 (some 50) rfl (Fr.refl _ _) ?_;refine tA 18 (some 51) rfl (Fr.refl _ _) ?_;refine tD ?_;have HM:=qH (show Mv w8 M (cntF n p G (t+1)) (mapF k n kd p g b G (t+1)) from by rw [jei (Hdh.out▸hG),<-jjk (Hdh.out▸hG)];exact M7.out);have HC:=qH (show 0<cntF n p G (t+1)->z=b.length from by rw [jei (Hdh.out▸hG)];exact HZ.out);clear hG;go_wp2_with fail;go_roundw
    case rel=>exact⟨t+1,z,by omega,by go_num,rfl,hz,HM.out,HC.out,F7.out⟩
    case measure=>simp [intOf];omega
  ·obtain rfl:t=n:=by omega
   have HX:=qH (show Mv wr M (cntG t G) (mapF k t kd p g b G t) from by rw [<-jkj (p:=p)];exact hmv);have HZz:=qH (show 0<cntG t G->z=b.length from by rw [<-jkj (p:=p)];exact hzb);clear hmv hzb hf;go_wp2_with fail;go_ret2;exact⟨M,z,rfl,HX.out,HZz.out,hz,by have:=HBM.out;omega,Br.out⟩
end
end
section
def jh0 (k:Nat)(kd:UInt8)(p g:Nat)(b:List UInt8)(i:Nat):List UInt8:=secT kd p g b.length (jfN k b i) i
theorem jdf {k:Nat}{kd:UInt8}{p g:Nat}{b:List UInt8}{i:Nat}(hk:1<=k)(h:RefOk kd p g b.length (44*k)):(jh0 k kd p g b i).length=64:=jkr h (jaX hk)
structure MkB (w:World)(b1 b2 b3 A C:Nat)(kd:UInt8)(p g:Nat)(Ar:Option Addr)(n c:Nat)(rs:List (List UInt8))(z:Nat):Prop where
 st:StB w b1 A C kd p g
 rows:w.heap[b2]? =some (.cells #[.slice Ar n c] 101 (0,0))
 size:w.heap[b3]? =some (.cells #[.int .u16 (z:Int)] 186 (0,0))
 gr:Gr w Ar n c rs
section
variable {w w':World}{b1 b2 b3 A C p g n c z i:Nat}{kd:UInt8}{Ar:Option Addr}{rs:List (List UInt8)}
theorem MkB.later (h:MkB w b1 b2 b3 A C kd p g Ar n c rs z)(hb:Below w.heap.size w w'):MkB w' b1 b2 b3 A C kd p g Ar n c rs z:=
 ⟨h.st.later hb,(hb.block _ (block_lt h.rows)).trans h.rows,(hb.block _ (block_lt h.size)).trans h.size,h.gr.later hb⟩
theorem MkB.c2 (h:MkB w b1 b2 b3 A C kd p g Ar n c rs z):w.cell? ⟨b2,0,none⟩=some (.slice Ar n c):=by rw [cell_of_row _ _ _ _ _ _ h.rows];rfl
theorem MkB.c3 (h:MkB w b1 b2 b3 A C kd p g Ar n c rs z):w.cell? ⟨b3,0,none⟩=some (.int .u16 (z:Int)):=by rw [cell_of_row _ _ _ _ _ _ h.size];rfl
theorem jjm (A C:Nat)(kd:UInt8)(p g:Nat)(z:Nat)(w:World)(hg:Gr w Ar n c rs):
  Calls Tryz.prog 95 #[.agg #[.pointer (some ⟨A,0,none⟩), .pointer (some ⟨C,0,none⟩), .int .u8 (kd.toNat:Int), .int .i64 (p:Int), .int .u64 (g:Int)], .slice Ar n c, .int .u16 (z:Int)] w λ e w' =>∃b1 b2 b3,e= .returned (.func (.func 147) #[] #[.pointer (some ⟨b1,0,none⟩), .pointer (some ⟨b3,0,none⟩), .pointer (some ⟨b2,0,none⟩)])∧MkB w' b1 b2 b3 A C kd p g Ar n c rs z∧Below w.heap.size w w':=by
 have H:=qH hg;clear hg;go_enter Tryz.func95,Tryz.ntmps95;go_wp2_with fail;go_ret;refine⟨_,_,_,rfl,⟨?_, ?_, ?_,H.out.later ?_⟩, ?_⟩
 ·exact((Below.heap_alloc _ _ _ (by simp;omega)).trans (Below.heap_alloc _ _ _ (by simp))).trans (heap_alloc_new w _)
 ·exact(Below.heap_alloc _ _ _ (by simp)).trans (by
   have:=heap_alloc_new (w.alloc (.cells #[.pointer (some ⟨A,0,none⟩), .pointer (some ⟨C,0,none⟩), .int .u8 (kd.toNat:Int), .int .i64 (p:Int), .int .u64 (g:Int)] 181)) (.cells #[.slice Ar n c] 101)
   simpa using this)
 ·have:=heap_alloc_new ((w.alloc (.cells #[.pointer (some ⟨A,0,none⟩), .pointer (some ⟨C,0,none⟩), .int .u8 (kd.toNat:Int), .int .i64 (p:Int), .int .u64 (g:Int)] 181)).alloc (.cells #[.slice Ar n c] 101)) (.cells #[.int .u16 (z:Int)] 186)
  simpa using this
 ·exact(((Below.refl _ _).alloc (Nat.le_refl _) _).alloc (by simp) _).alloc (by simp;omega) _
 ·exact(((Below.refl _ _).alloc (Nat.le_refl _) _).alloc (by simp) _).alloc (by simp;omega) _
end
theorem jlu (k i p g z:Int)(l:List UInt8):Tryz.prog.built 244 [(0, .int .u8 k),(1, .int .u8 i),(2, .int .u16 p),(3, .int .u64 g),(4, .int .u16 z),(5, .agg (cells (jaB l)).toArray)]=some (Value.int .u8 k:: .int .u8 i:: .int .u16 p:: .int .u64 g:: .int .u16 z::cells (jaB l)).toArray:=by kernel_rfl
theorem jf5 {ρ:Operand->Value}{o:Oper}{a b c d e f:Operand}{w:World}{s:Sh}{i:Int}(ho:o.op= .build 244 #[(0,a),(1,b),(2,c),(3,d),(4,e),(5,f)])(h0:ρ a= .int .u8 (s.kind.toNat:Int))(h1:ρ b= .int .u8 i)(hi:i=(s.idx.toNat:Int))(h2:ρ c= .int .u16 (s.place:Int))(h3:ρ d= .int .u64 (s.gen:Int))(h4:ρ e= .int .u16 (s.size:Int))(h5:ρ f= .agg (cells (jaB s.body)).toArray):
  (execOp ρ o).run Tryz.prog w= .ok (.value (.agg s.cs.toArray)) w:=by
 subst hi;have h:=run_build (P:=Tryz.prog) w 244 _ _ (jlu (s.kind.toNat:Int) (s.idx.toNat:Int) (s.place:Int) (s.gen:Int) (s.size:Int) s.body);unfold execOp;simp [ho,h0,h1,h2,h3,h4,h5,h,Result.andThen,Sh.cs]
theorem jjn {ρ:Operand->Value}{o:Oper}{x:Operand}{w:World}{b off:Nat}{l:List UInt8}(ho:o.op= .load 242 x)(hx:ρ x= .pointer (some ⟨b,off,none⟩))(h:w.rangeAt b off (cells (jaB l))):(execOp ρ o).run Tryz.prog w= .ok (.value (.agg (cells (jaB l)).toArray)) w:=by
 unfold execOp;simp only [ho,hx,Instr.loadAt,Instr.sureAddr,Sem.run_bind,Sem.run_pure,Result.andThen_ok,run_loadVar_mid w b off 242 _ _ h Tryz.underlying242 rfl (jc0 l)]
theorem arr44 (b o c:Nat)(w:World):(Instr.arrayAt 242 (.slice (some ⟨b,o,none⟩) 44 c)).run Tryz.prog w= .ok (.pointer (some ⟨b,o,none⟩)) w:=by
 simp [Instr.arrayAt,run_underlying Tryz.underlying242]
section
variable {w:World}{b1 b2 b3 A C p g n c z i:Nat}{kd:UInt8}{Ar:Option Addr}{rs:List (List UInt8)}{row:List UInt8}
theorem jlv (h:MkB w b1 b2 b3 A C kd p g Ar n c rs z)(hN:Nt w)(hi:i<n)(hn:n<=255)(hrow:rs[i]? =some row)(hr:row.length=44)(hk1:1<=kd.toNat)(hk4:kd.toNat<=4)(hp:p<65536)(hg:g<18446744073709551616)(hz:z<65536):
  Calls Tryz.prog 147 #[.int .i64 (i:Int), .pointer (some ⟨b1,0,none⟩), .pointer (some ⟨b3,0,none⟩), .pointer (some ⟨b2,0,none⟩)] w λ e w' =>∃A',e= .returned (.slice A' 64 64)∧Sl w' 1 A' 64 64 (cells (secT kd p g z row i))∧Below w.heap.size w w' ∧∀b o,A' =some ⟨b,o,none⟩->w.heap.size<=b:=by
 obtain⟨s,hs⟩:∃s:Sh,s=⟨kd,UInt8.ofNat i,p,g,z,row⟩:=⟨_,rfl⟩;have hok:s.Ok:=by rw [hs];exact⟨hp,hg,hz,hr⟩
 have hkn:s.kn=true:=by rw [hs];simp [Sh.kn,hk1,hk4]
 have hidx:(i:Int)=(s.idx.toNat:Int):=by rw [hs];show (i:Int)=((UInt8.ofNat i).toNat:Int);rw [UInt8.toNat_ofNat',Nat.mod_eq_of_lt (by omega)]
 have hsec:secT kd p g z row i=s.sector:=by rw [hs];rfl
 rw [hsec];have HS:=qH hs;have HI:=qH hidx;have OK:=qH hok;have KN:=qH hkn;have H:=qH h;have NT:=qH hN;obtain⟨bR,oR,rfl,hc⟩:=h.gr.at_ (by omega);obtain⟨A1,c1,hcr,hsr⟩:=hc i row hrow;rw [hr] at hcr hsr;obtain⟨bq,oq,rfl,hcq⟩:=hsr.at_ (show 0<44 by decide);have HCR:=qH hcr;have HRG:=qH (show w.rangeAt bq oq (cells (jaB row)) from λ j v hv=>hcq j v (by rwa [jeQ hr] at hv));have hwi:IntKind.u8.wrap (i:Int)=(i:Int):=by rw [IntKind.wrap_u8];omega
 have hwp:IntKind.u16.wrap (p:Int)=(p:Int):=by rw [IntKind.wrap_u16];omega
 have hin:(i:Int)<(n:Int):=by omega
 clear hs hok hkn hidx hsec h hN hc hcr hsr hcq hrow hr hk1 hk4 hp hg hz;go_enter Tryz.func147,Tryz.ntmps147;go_wp2_with fail;refine wp_region_held_drew (S:=λ w' =>Fr (λ _=>False) w.drew w') (by kernel_rfl) (Fr.refl _ _) (λ hHeld=> ?_);clear hHeld;refine tA 0 (some 9) rfl (Fr.refl _ _) ?_;refine tA 1 (some 10) rfl (Fr.refl _ _) ?_;refine tL 2 (some 11) (v:= ?vk2) rfl ?yk2 (Fr.refl _ _) ?rk2
 case yk2=>
  intro wq hSw
  (try dsimp only at hSw)
  have hq:=hSw.cell_some H.out.st.c2 (λ h=>h);go_simp<;>with_reducible rfl
 try simp only [Act.put,sA,sB,sC]
 refine tA 3 (some 12) rfl (Fr.refl _ _) ?_;refine tA 4 (some 13) rfl (Fr.refl _ _) ?_;refine tA 5 (some 14) rfl (Fr.refl _ _) ?_;refine tA 6 (some 15) rfl (Fr.refl _ _) ?_;refine tL 7 (some 16) (v:= ?vk7) rfl ?yk7 (Fr.refl _ _) ?rk7
 case yk7=>
  intro wq hSw
  (try dsimp only at hSw)
  have hq:=hSw.cell_some H.out.st.c3 (λ h=>h);go_simp<;>with_reducible rfl
 try simp only [Act.put,sA,sB,sC]
 refine tA 8 (some 17) rfl (Fr.refl _ _) ?_;refine tA 9 (some 18) rfl (Fr.refl _ _) ?_;refine tA 10 (some 19) rfl (Fr.refl _ _) ?_;refine tL 11 (some 20) (v:= ?vk11) rfl ?yk11 (Fr.refl _ _) ?rk11
 case yk11=>
  intro wq hSw
  (try dsimp only at hSw)
  have hq:=hSw.cell_some H.out.st.c4 (λ h=>h);go_simp<;>with_reducible rfl
 try simp only [Act.put,sA,sB,sC]
 refine tL 12 (some 21) (v:= ?vk12) rfl ?yk12 (Fr.refl _ _) ?rk12
 case yk12=>
  intro wq hSw
  (try dsimp only at hSw)
  have hq:=hSw.cell_some H.out.c3 (λ h=>h);go_simp<;>with_reducible rfl
 try simp only [Act.put,sA,sB,sC]
 refine tL 13 (some 22) (v:= ?vk13) rfl ?yk13 (Fr.refl _ _) ?rk13
 case yk13=>
  intro wq hSw
  (try dsimp only at hSw)
  have hq:=hSw.cell_some H.out.c2 (λ h=>h);go_simp<;>with_reducible rfl
 try simp only [Act.put,sA,sB,sC]
 refine tA 14 (some 23) rfl (Fr.refl _ _) ?_;refine tA 15 (some 24) rfl (Fr.refl _ _) ?_;refine tL 16 (some 25) (v:= ?vk16) rfl ?yk16 (Fr.refl _ _) ?rk16
 case yk16=>
  intro wq hSw
  (try dsimp only at hSw)
  have hq:=hSw.cell_some HCR.out (λ h=>h);go_simp<;>with_reducible rfl
 try simp only [Act.put,sA,sB,sC]
 refine tL 17 (some 26) (v:= ?vk17) rfl ?yk17 (Fr.refl _ _) ?rk17
 case yk17=>
  intro wq hSw
  (try dsimp only at hSw)
  have hsa:=arr44 bq oq c1 wq;go_simp<;>with_reducible rfl
 try simp only [Act.put,sA,sB,sC]
 refine tL 18 (some 27) (v:=(.agg (cells (jaB row)).toArray)) rfl ?yk18 (Fr.refl _ _) ?rk18
 case yk18=>
  intro wq hSw;exact jjn (x:= .tmp 26) (b:=bq) (off:=oq) (l:=row) rfl rfl (λ j v hv=>hSw.cell_some (HRG.out j v hv) (λ h=>h))
 try simp only [Act.put,sA,sB,sC]
 refine tL 19 (some 28) (v:=(.agg s.cs.toArray)) rfl ?yk19 (Fr.refl _ _) ?rk19
 case yk19=>
  intro wq hSw;exact jf5 (s:=s) (i:=(i:Int)) rfl (by rw [HS.out];rfl) (by go_simp) HI.out (by rw [HS.out];go_simp) (by rw [HS.out];rfl) (by rw [HS.out];rfl) (by rw [HS.out];rfl)
 try simp only [Act.put,sA,sB,sC]
 refine rW 20 (some 29) rfl λ K hK=> ?_
 go_simp;refine(jpo s OK.out KN.out w.drew (NT.out.keep (Below.drew (Below.refl _ _)))).mono ?_;rintro e w1 ⟨A1,rfl,hs1,hm1,hb1⟩;have hfr:Fr (λ _=>False) w.drew w1:=Fr.of_below hb1;have S1:=qH hs1;have B1:=qH (show Below w.heap.size w w1 from (Below.drew (Below.refl w.heap.size w)).trans hb1);have L1:=qH (show ∀b o,A1=some ⟨b,o,none⟩->w.heap.size<=b from λ b o e=>by
  obtain⟨gg,cur,hA,hg,_⟩:=hm1 (by decide);rw [e] at hA;injection hA with hA
  injection hA with hA _
  have hg:w.heap.size<=gg:=hg;omega)
 clear hs1 hm1 hb1;go_wp2_with fail;refine hK.out _ _ hfr (λ hHeld=> ?_);clear hK K hHeld
 try simp only [Act.put,sA,sB,sC]
 refine jac (S':=λ w' =>Fr (λ _=>False) w1 w') (λ w' h=>hfr.trans h) ?_;clear hfr;refine tA 21 (some 8) rfl (Fr.refl _ _) ?_;refine tA 22 (some 30) rfl (Fr.refl _ _) ?_;refine tA 23 (some 31) rfl (Fr.refl _ _) ?_;refine tA 24 (some 6) rfl (Fr.refl _ _) ?_;refine tA 25 (some 7) rfl (Fr.refl _ _) ?_;refine tD ?_;go_wp2_with fail;go_ret;exact⟨A1,rfl,S1.out,B1.out,L1.out⟩
end
def rowW (n p:Nat)(sec:Nat->List UInt8)(t:Nat):List (List UInt8):=(List.range n).map λ d=>if idxN n p d<t then sec (idxN n p d) else []
section
variable {n p t d:Nat}{sec:Nat->List UInt8}
theorem jeT:(rowW n p sec t).length=n:=by simp [rowW]
theorem jny:List.replicate n []=rowW n p sec 0:=by
 apply List.ext_getElem
 ·rw [jeT,List.length_replicate]
 ·intro i h1 h2;simp [rowW]
theorem jnz (ht:t<n):(rowW n p sec t).set (jaW n p t) (sec t)=rowW n p sec (t+1):=by
 apply List.ext_getElem
 ·rw [List.length_set,jeT,jeT]
 ·intro d h1 h2
  rw [jeT] at h2;rw [List.getElem_set];simp only [rowW,List.getElem_map,List.getElem_range]
  by_cases e:jaW n p t=d
  ·have hid:idxN n p d=t:=by rw [<-e];exact jeW ht
   rw [if_pos e,hid,if_pos (by omega)]
  ·rw [if_neg e]
   have hid:idxN n p d≠t:=λ q=>e (by rw [<-q];exact jkq h2)
   by_cases q:idxN n p d<t
   ·rw [if_pos q,if_pos (by omega)]
   ·rw [if_neg q,if_neg (by omega)]
theorem jnA (hd:d<n):(rowW n p sec n)[d]? =some (sec (idxN n p d)):=by
 simp only [rowW,List.getElem?_map,List.getElem?_range hd,Option.map_some];rw [if_pos (jkp (by omega))]
theorem jnB (hd:d<n):(rowW n p sec n).getD d []=sec (idxN n p d):=by rw [List.getD_eq_getElem?_getD,jnA hd,Option.getD_some]
variable {xs:List Dv}{N:Nat}
theorem jh1 (hl:xs.length=n)(hx:∀(d:Nat) (x:Dv),xs[d]? =some x->x.Ok∧x.n=N)(hp:p<N)(hs:∀i,(sec i).length=0∨(sec i).length=64):∀t,t<=n->
  putN xs (rowW n p sec n) (p:Int) t=(List.range t).countP λ d=>decide (0<(sec (idxN n p d)).length) && jhb xs d
 |0,_=>by simp [putN,putA]
 |t+1,ht=>by
  have hx1:xs[t]? =some (xs[t]'(by omega)):=List.getElem?_eq_getElem _;obtain⟨x,hxe⟩:∃x,x=xs[t]'(by omega):=⟨_,rfl⟩;rw [<-hxe] at hx1;rw [jm7 hx1 (jnA (by omega)),jh1 hl hx hp hs t (by omega),List.range_succ,List.countP_append,List.countP_singleton,jhc hx1]
  congr 1
  have hhas:x.has (p:Int):=jcO (hx t x hx1).2 hp
  rcases hs (idxN n p t) with h0|h64
  ·rw [if_neg (by omega),if_neg (by simp [h0])]
  ·cases hg:x.gone
   ·rw [if_pos ⟨by omega,Dv.writeX_yes hg hhas h64⟩,if_pos (by simp [h64])]
   ·rw [if_neg (λ q=>by rw [Dv.writeX,if_pos hg] at q;exact absurd q.2 (by decide)),if_neg (by simp)]
theorem jh2 {F F':Nat->Dv->Dv}(h:∀(d:Nat) (x:Dv),d<n->xs[d]? =some x->F d x=F' d x):upTo F xs n=upTo F' xs n:=by
 apply List.ext_getElem
 ·rw [jaw,jaw]
 ·intro d h1 h2
  rw [jaw] at h1;simp only [upTo,List.getElem_mapIdx]
  split
  ·rename_i hd
   exact h d _ hd (List.getElem?_eq_getElem h1)
  ·rfl
end
section
variable {Rep:World->(Nat->Prop)->Nat->Dv->Prop}{w:World}{S:Nat->Prop}{A C k m F T N n p g:Nat}{kd:UInt8}{xs:List Dv}
theorem jjo (DK:DrvK Rep)(h:Ac13 Rep w S A C k m F T N xs)(hn:n=k+m)(hp:p<65536)(f:Nat)(ef:∀args w,(callFunc f args).run Tryz.prog w= .ok (.enter f args) w)(caps:Array Value)(sec:Nat->List UInt8)
  (ht:∀(u:World) (i:Nat),i<n->Below w.heap.size w u->Calls Tryz.prog f (#[.int .i64 (i:Int)] ++ caps) u λ e u' =>∃A' c',e= .returned (.slice A' (sec i).length c')∧Sl u' 1 A' (sec i).length c' (cells (sec i))∧Below u.heap.size u u' ∧∀b o,0<(sec i).length->A' =some ⟨b,o,none⟩->u.heap.size<=b):
  Calls Tryz.prog 94 #[.agg #[.pointer (some ⟨A,0,none⟩), .pointer (some ⟨C,0,none⟩), .int .u8 (kd.toNat:Int), .int .i64 (p:Int), .int .u64 (g:Int)], .func (.func f) #[] caps] w λ e w' =>e= .returned (.int .i64 (putN xs (rowW n p sec n) (p:Int) n:Nat))∧MutA Rep S A (putS xs (rowW n p sec n) (p:Int) n) w w':=by
 have hq1:1<=n:=by have:=h.c.k1;omega
 have hq2:n<=255:=by have:=h.c.n255;omega
 have hlen:xs.length=n:=by rw [h.len,hn]
 have hp9:p<9223372036854775808:=by omega
 have hmk:=jbE (n:Int) n rfl (by omega);have AC:=qH h;have Hn:=qH hn;have Hlen:=qH hlen;have HT:=qH ht;clear h hn hlen ht;go_enter Tryz.func94,Tryz.ntmps94;go_wp2_with fail;have hnew:StB (w.alloc (.cells #[.pointer (some ⟨A,0,none⟩), .pointer (some ⟨C,0,none⟩), .int .u8 (kd.toNat:Int), .int .i64 (p:Int), .int .u64 (g:Int)] 181)) w.heap.size A C kd p g:=heap_alloc_new w _;have hb0:Below w.heap.size w (w.alloc (.cells #[.pointer (some ⟨A,0,none⟩), .pointer (some ⟨C,0,none⟩), .int .u8 (kd.toNat:Int), .int .i64 (p:Int), .int .u64 (g:Int)] 181)):=(Below.refl _ _).alloc (Nat.le_refl _) _;obtain⟨w1,hw1⟩:∃x,x=w.alloc (.cells #[.pointer (some ⟨A,0,none⟩), .pointer (some ⟨C,0,none⟩), .int .u8 (kd.toNat:Int), .int .i64 (p:Int), .int .u64 (g:Int)] 181):=⟨_,rfl⟩;rw [<-hw1] at hnew hb0 ⊢;obtain⟨B,hB⟩:∃B,B=w.heap.size:=⟨_,rfl⟩;rw [<-hB] at hnew ⊢;have HB:=qH hB;have Hs1:=qH hnew;have B1:=qH hb0
 clear hw1 hnew hb0 hB;refine(cn13 (AC.out.c.later B1.out) Hn.out).mono ?_;rintro e w2 ⟨rfl,hb2⟩;have B2:=qH (B1.out.trans (hb2.mono B1.out.size));have Hs2:=qH (Hs1.out.later hb2);clear hb2;go_wp2_with fail;have hb3:Below w2.heap.size w2 (w2.alloc (.cells (madeCells #[.slice none 0 0] n) 105)):=(Below.refl _ _).alloc (Nat.le_refl _) _;have hnr:Nr (w2.alloc (.cells (madeCells #[.slice none 0 0] n) 105)) w.heap.size w2.heap.size n (rowW n p sec 0):=by rw [<-jny];exact Nr.made w2 _ n (by unfold maxLen;omega)
 obtain⟨w3,hw3⟩:∃v,v=w2.alloc (.cells (madeCells #[.slice none 0 0] n) 105):=⟨_,rfl⟩;rw [<-hw3] at hb3 hnr ⊢;have B3:=qH (B2.out.trans (hb3.mono B2.out.size));have Hs3:=qH (Hs2.out.later hb3);have NR3:=qH hnr;obtain⟨Q,hQ⟩:∃Q,Q=w2.heap.size:=⟨_,rfl⟩;rw [<-hQ] at NR3 ⊢;have HQ:=qH (show Q<w3.heap.size∧B<Q∧w.heap.size<=Q from ⟨NR3.out.lt,by rw [hQ];exact Hs2.out.lt,by have:=B2.out.size;omega⟩);clear hw3 hb3 hnr hmk hQ;go_wp2_with fail;go_loopw [13] (λ i wr=>∃t:Nat,t<=n∧i= .int .i64 (t:Int)∧Nr wr w.heap.size Q n (rowW n p sec t)∧Fr (λ b=>b=Q) w3 wr) (λ i _=>n-(intOf i).toNat)
 case atStart=>exact⟨0,by omega,rfl,NR3.out,Fr.refl _ _⟩
 case round=>
  obtain⟨t,ht,rfl,hnr,hf⟩:=hrel;have NR:=qH hnr;have Hf:=qH hf;have Br:=qH (B3.out.trans (hf.below (by have:=B3.out.size;omega) (λ x q=>by have q:x=Q:=q;have:=HQ.out;omega)));have Hsr:=qH (Hs3.out.fr hf (λ q=>by have q:B=Q:=q;have:=HQ.out;omega));clear hnr hf
  by_cases hlt:t<n
  ·have hti:(t:Int)<(n:Int):=by omega
   obtain⟨d,hd⟩:∃d,d=jaW n p t:=⟨_,rfl⟩;have hdn:d<n:=by rw [hd];exact jju (by omega)
   have hdi:(d:Int)<(n:Int):=by omega
   have Hdh:=qH hd;clear hd;go_wp2_with (refine jaJ (d:=17) ?_;refine jas (o:=⟨some 17,_,_,_,_,_⟩) rfl _ wr (jco (x:= .tmp 2) rfl rfl Hsr.out) ?_);refine(jgt (A:=A) (kd:=kd) (g:=g) (AC.out.c.later Br.out) Hn.out hp9 (show t<9223372036854775808 by omega)).mono ?_;rintro e w4 ⟨rfl,hb4⟩;rw [<-Hdh.out];have B4:=qH (Br.out.trans (hb4.mono Br.out.size));have NR4:=qH (NR.out.later hb4);have F4:=qH (Hf.out.trans (Fr.of_below hb4:Fr (λ b=>b=Q) wr w4));clear hb4;have hh:=HT.out w4 t hlt B4.out;go_wp2_with fail;refine hh.mono ?_;clear hh;rintro e w5 ⟨A5,c5,rfl,hs5,hb5,hlo5⟩;obtain⟨⟨v,hv⟩,hz⟩:=(NR4.out.later hb5).cell hdn;have hst:=(NR4.out.later hb5).store hdn (r:=sec t) hs5 (λ b o hl e=>by
    have:=hlo5 b o hl e;have:=NR4.out.lt;have:=B4.out.size;omega)
   have hnx:=jnz (sec:=sec) (p:=p) hlt;rw [<-Hdh.out] at hnx;rw [hnx] at hst;have ST:=qH hst;have F5:=qH (F4.out.trans (((Fr.of_below hb5:Fr (λ b=>b=Q) w4 w5)).setCell (p:=⟨Q,d,none⟩) (.inr rfl) (.slice A5 (sec t).length c5)));clear hst hnx hb5 hlo5 hs5;go_wp2_with fail;go_roundw
   case rel=>exact⟨t+1,by omega,by go_num,ST.out,F5.out⟩
   case measure=>simp [intOf];omega
  ·obtain rfl:t=n:=by omega
   have c0:=Hsr.out.c0;have c3:=Hsr.out.c3;have hold:=λ x=>AC.out.a.old (b:=x)
   have hC:=jhT DK (AC.out.a.later DK.lay Br.out) (AC.out.wl.mono13 (by decide)) (by rw [Hlen.out];omega) (p:Int) (by omega) (by omega) (NR.out.ns (by have:=HQ.out;omega)) (λ b hb hS=>by have:=hold b hS;omega);rw [Hlen.out,Nat.min_self] at hC;clear hold;go_wp2_with fail;refine hC.mono ?_;clear hC;rintro e w6 ⟨rfl,S6,ha6,hn6⟩;have M6:=qH (show MutA Rep S A (putS xs (rowW t p sec t) (p:Int) t) w w6 from ⟨S6,ha6,hn6.below Br.out⟩);obtain⟨q,hq⟩:∃q,q=putN xs (rowW t p sec t) (p:Int) t:=⟨_,rfl⟩;rw [<-hq];clear ha6 hn6 c0 c3;go_wp2_with fail;go_ret;exact⟨rfl,M6.out⟩
end
end
section
theorem jfE (w:World):(zeroValue 181).run Tryz.prog w= .ok (.agg #[.pointer none, .pointer none, .int .u8 0, .int .i64 0, .int .u64 0]) w:=by kernel_rfl
theorem jlw (a c:Option Addr)(k p g:Int):Tryz.prog.built 181 [(0, .pointer a),(1, .pointer c),(2, .agg #[.int .u8 k, .int .i64 p, .int .u64 g])]=some #[.pointer a, .pointer c, .int .u8 k, .int .i64 p, .int .u64 g]:=by kernel_rfl
theorem jcb {ρ:Operand->Value}{o:Oper}{x y z:Operand}{w:World}{a c:Option Addr}{k p g:Int}(ho:o.op= .build 181 #[(0,x),(1,y),(2,z)])(h0:ρ x= .pointer a)(h1:ρ y= .pointer c)(h2:ρ z= .agg #[.int .u8 k, .int .i64 p, .int .u64 g]):
  (execOp ρ o).run Tryz.prog w= .ok (.value (.agg #[.pointer a, .pointer c, .int .u8 k, .int .i64 p, .int .u64 g])) w:=by
 have h:=run_build (P:=Tryz.prog) w 181 _ _ (jlw a c k p g);unfold execOp;simp [ho,h0,h1,h2,h,Result.andThen]
section
variable {Rep:World->(Nat->Prop)->Nat->Dv->Prop}{w:World}{S:Nat->Prop}{A C k m F T N p g:Nat}{kd:UInt8}{xs:List Dv}{b:List UInt8}{G:Nat->Bool}
theorem jnC {n:Nat}(hl:xs.length=n)(hx:∀(d:Nat) (x:Dv),xs[d]? =some x->x.Ok∧x.n=N)(hp:p<N)(hk:1<=k)(hr:RefOk kd p g b.length (44*k)):
  putN xs (rowW n p (jh0 k kd p g b) n) (p:Int) n=cntG n (jhb xs)∧putS xs (rowW n p (jh0 k kd p g b) n) (p:Int) n=jaS k n kd p g b xs:=by
 constructor
 ·rw [jh1 hl hx hp (λ i=> .inr (jdf hk hr)) n (Nat.le_refl _)]
  unfold cntG;refine List.countP_congr λ d _=> ?_
  rw [jdf hk hr];simp
 ·unfold putS jaS
  refine jh2 λ d x hd _=> ?_
  unfold putF;rw [jnB hd,jdf hk hr,if_pos (by decide)]
  rfl
theorem jgZ:∀args w,(callFunc 147 args).run Tryz.prog w= .ok (.enter 147 args) w:=enters_of Tryz.func147 (by kernel_rfl) rfl
theorem jnD (DK:DrvK Rep)(kd:UInt8)(p g:Nat)(b:List UInt8)(A2:Option Addr)(c2:Nat){n R:Nat}(hn:n=k+m)(hR:R=44*k)(h:Ac13 Rep w S A C k m F T N xs)(hr:RefOk kd p g b.length (44*k))(hp:p<N)(hs:Sl w 1 A2 b.length c2 (cells b)):
  Calls Tryz.prog 52 #[.pointer (some ⟨A,0,none⟩), .pointer (some ⟨C,0,none⟩), .agg #[.int .u8 (kd.toNat:Int), .int .i64 (p:Int), .int .u64 (g:Int)], .slice A2 b.length c2] w λ e w' =>e= .returned (.tuple #[.int .i64 (cntG n (jhb xs):Nat), .int .i64 0])∧MutA Rep S A (jaS k n kd p g b xs) w w':=by
 have hk1:=h.c.k1;have hq2:n<=255:=by have:=h.c.n255;omega
 have hq1:1<=n:=by omega
 have hp16:p<65536:=hr.p;have hR16:R<65536:=by rw [hR];exact hr.R
 have hb16:b.length<=R:=by rw [hR];exact hr.z
 have AC:=qH h;have HRo:=qH hr;have Hp:=qH hp;have Hn:=qH hn;have HR:=qH hR;have HK1:=qH hk1;clear h hr hp hn hR hk1;have Hsl:=qH hs;obtain⟨nb,hnb⟩:∃nb,nb=b.length:=⟨_,rfl⟩;rw [<-hnb] at hb16 ⊢;have HNB:=qH hnb;clear hs hnb;have hzv:=jfE;go_enter Tryz.func52,Tryz.ntmps52;go_wp2_with (first
  |(refine jaJ (d:=18) ?_;refine jas (o:=⟨some 18,_,_,_,_,_⟩) rfl _ _ (jem (x:= .tmp 6) rfl rfl (heap_alloc_new w _)) ?_)
  |(refine jaJ (d:=19) ?_;refine jas (o:=⟨some 19,_,_,_,_,_⟩) rfl _ _ (jcb (x:= .tmp 16) (y:= .tmp 17) (z:= .tmp 18) rfl rfl rfl rfl) ?_))
 have hnew:StB ((w.alloc (.cells #[.int .u8 (kd.toNat:Int), .int .i64 (p:Int), .int .u64 (g:Int)] 109)).alloc (.cells #[.pointer (some ⟨A,0,none⟩), .pointer (some ⟨C,0,none⟩), .int .u8 (kd.toNat:Int), .int .i64 (p:Int), .int .u64 (g:Int)] 181)) (w.heap.size+1) A C kd p g:=by
  have:=heap_alloc_new (w.alloc (.cells #[.int .u8 (kd.toNat:Int), .int .i64 (p:Int), .int .u64 (g:Int)] 109)) (.cells #[.pointer (some ⟨A,0,none⟩), .pointer (some ⟨C,0,none⟩), .int .u8 (kd.toNat:Int), .int .i64 (p:Int), .int .u64 (g:Int)] 181);rw [show (w.alloc (.cells #[.int .u8 (kd.toNat:Int), .int .i64 (p:Int), .int .u64 (g:Int)] 109)).heap.size=w.heap.size+1 from by simp] at this;exact this
 have hb1:Below w.heap.size w ((w.alloc (.cells #[.int .u8 (kd.toNat:Int), .int .i64 (p:Int), .int .u64 (g:Int)] 109)).alloc (.cells #[.pointer (some ⟨A,0,none⟩), .pointer (some ⟨C,0,none⟩), .int .u8 (kd.toNat:Int), .int .i64 (p:Int), .int .u64 (g:Int)] 181)):=((Below.refl _ _).alloc (Nat.le_refl _) _).alloc (by simp) _;obtain⟨w1,hw1⟩:∃x,x=((w.alloc (.cells #[.int .u8 (kd.toNat:Int), .int .i64 (p:Int), .int .u64 (g:Int)] 109)).alloc (.cells #[.pointer (some ⟨A,0,none⟩), .pointer (some ⟨C,0,none⟩), .int .u8 (kd.toNat:Int), .int .i64 (p:Int), .int .u64 (g:Int)] 181)):=⟨_,rfl⟩;rw [<-hw1] at hnew hb1 ⊢;obtain⟨B,hB⟩:∃B,B=w.heap.size+1:=⟨_,rfl⟩;rw [<-hB] at hnew ⊢;have HB:=qH (show w.heap.size<=B by omega);have Hs1:=qH hnew;have B1:=qH hb1;clear hw1 hnew hb1 hB hzv;refine(jfC DK (AC.out.later DK B1.out) HRo.out.k1 HRo.out.k4 Hp.out).mono ?_;rintro e w2 ⟨rfl,hb2⟩
 have B2:=qH (B1.out.trans (hb2.mono B1.out.size));have Hs2:=qH (Hs1.out.later hb2);clear hb2;have hle:(nb:Int)<=(R:Int):=by omega
 have hsp:=jmN C k m F T A2 nb c2 b 44 (by decide) (by decide) w2 (AC.out.c.later B2.out) (by rw [HNB.out];exact Hsl.out.below B2.out (Nat.le_refl _));go_wp2_with fail;refine(jjl (AC.out.c.later B2.out) HR.out).mono ?_;rintro e w3 ⟨rfl,hw3⟩;obtain rfl:w2=w3:=hw3.symm;clear hw3;go_wp2_with fail;refine hsp.mono ?_;clear hsp;rintro e w4 ⟨hb4,⟨hx,rfl⟩|⟨_,hx,rfl⟩|⟨_,_,gd,rfl,hgr⟩⟩
 ·exact absurd ⟨by decide,by decide⟩ hx
 ·exfalso
  have:=HR.out;omega
 have hgr:Gr w4 (some ⟨gd,0,none⟩) k k (cutL b 44 k):=hgr;have B4:=qH (B2.out.trans (hb4.mono B2.out.size));have Hs4:=qH (Hs2.out.later hb4);have hal:=jqW C k m F T (some ⟨gd,0,none⟩) k k (cutL b 44 k) w4 (AC.out.c.later B4.out) hgr (λ r q=>by rw [jg8 b 44 k r q];decide);clear hb4 hgr;go_wp2_with fail;refine hal.mono ?_;clear hal;rintro e w5 ⟨hb5,⟨hx,rfl⟩|⟨_,Ar,cr,rfl,hgm⟩⟩
 ·exfalso
  rw [jko] at hx
  cases hx
 have hgr:=hgm.gr;rw [<-jrq k m _ (jaU _ _ _) jhX,<-Hn.out] at hgr;rw [<-Hn.out];have GR:=qH hgr;have B5:=qH (B4.out.trans (hb5.mono B4.out.size));have Hs5:=qH (Hs4.out.later hb5);clear hb5 hgm hgr;have hnS:¬S B:=λ q=>by have:=AC.out.a.old q;have:=HB.out;omega
 have HNS:=qH hnS;have hwz:IntKind.u16.wrap (nb:Int)=(nb:Int):=by rw [IntKind.wrap_u16];omega
 clear hnS hle;go_wp2_with fail;refine wp_region_held_drew (S:=λ w' =>Fr (S) w5.drew w') (by kernel_rfl) (Fr.refl _ _) (λ hHeld=> ?_);clear hHeld;refine tL 0 (some 42) (v:=(.agg #[.pointer (some ⟨A,0,none⟩), .pointer (some ⟨C,0,none⟩), .int .u8 (kd.toNat:Int), .int .i64 (p:Int), .int .u64 (g:Int)])) rfl ?yp0 (Fr.refl _ _) ?rp0
 case yp0=>
  intro wq hSw;exact jco (x:= .tmp 10) rfl rfl (StB.fr (show StB w5.drew B A C kd p g from Hs5.out) hSw HNS.out)
 try simp only [Act.put,sA,sB,sC]
 refine tL 1 (some 43) (v:=(.agg #[.pointer (some ⟨A,0,none⟩), .pointer (some ⟨C,0,none⟩), .int .u8 (kd.toNat:Int), .int .i64 (p:Int), .int .u64 (g:Int)])) rfl ?yp1 (Fr.refl _ _) ?rp1
 case yp1=>
  intro wq hSw;exact jco (x:= .tmp 10) rfl rfl (StB.fr (show StB w5.drew B A C kd p g from Hs5.out) hSw HNS.out)
 try simp only [Act.put,sA,sB,sC]
 refine tA 2 (some 44) rfl (Fr.refl _ _) ?_;refine tA 3 (some 45) rfl (Fr.refl _ _) ?_;refine tA 4 (some 46) rfl (Fr.refl _ _) ?_;refine tA 5 (some 47) rfl (Fr.refl _ _) ?_;refine rW 6 (some 48) rfl λ K hK=> ?_
 go_simp;refine(jjm A C kd p g nb w5.drew (GR.out.later (Below.drew (Below.refl _ _)))).mono ?_;rintro e w6 ⟨b1,b2,b3,rfl,hmk,hb6⟩;have hfr:Fr S w5.drew w6:=Fr.of_below hb6;have MK:=qH hmk;have B6:=qH (show Below w.heap.size w w6 from B5.out.trans (((Below.drew (Below.refl w5.heap.size w5)).trans hb6).mono B5.out.size));clear hmk hb6;go_wp2_with fail;refine hK.out _ _ hfr (λ hHeld=> ?_);clear hK K hHeld
 try simp only [Act.put,sA,sB,sC]
 refine jac (S':=λ w' =>Fr (S) w6 w') (λ w' h=>hfr.trans h) ?_;clear hfr;refine rW 7 (some 49) rfl λ K hK=> ?_
 go_simp;have hC:=jjo (p:=p) (kd:=kd) (g:=g) DK (AC.out.later DK B6.out) Hn.out hp16 147 jgZ #[.pointer (some ⟨b1,0,none⟩), .pointer (some ⟨b3,0,none⟩), .pointer (some ⟨b2,0,none⟩)] (jh0 k kd p g b) (λ u i hi hu=>by
  have hh:=jlv (MK.out.later hu) (AC.out.nt.keep B6.out |>.keep hu) hi hq2 (jps hi) (jaX HK1.out) HRo.out.k1 HRo.out.k4 hp16 HRo.out.g (show nb<65536 by omega);refine hh.mono ?_;rintro e u' ⟨A',rfl,h1,h2,h3⟩;have hl:(jh0 k kd p g b i).length=64:=jdf HK1.out HRo.out;rw [HNB.out] at h1;exact⟨A',64,by rw [hl],by rw [hl];exact h1,h2,λ b o _ e=>h3 b o e⟩)
 refine hC.mono ?_;clear hC;rintro e w7 ⟨rfl,S7,ha7,hn7⟩;have hfr:Fr S w6 w7:=hn7.1;obtain⟨e1,e2⟩:=jnC (n:=n) (kd:=kd) (g:=g) (b:=b) (AC.out.len.trans Hn.out.symm) AC.out.n Hp.out HK1.out HRo.out;rw [e1];rw [e2] at ha7;have M7:=qH (show MutA Rep S A (jaS k n kd p g b xs) w w7 from ⟨S7,ha7,hn7.below B6.out⟩);obtain⟨q,hq⟩:∃q,q=cntG n (jhb xs):=⟨_,rfl⟩;rw [<-hq];clear ha7 hn7 e1 e2;go_wp2_with fail;refine hK.out _ _ hfr (λ hHeld=> ?_);clear hK K hHeld
 try simp only [Act.put,sA,sB,sC]
 refine jac (S':=λ w' =>Fr (S) w7 w') (λ w' h=>hfr.trans h) ?_;clear hfr;refine tA 8 (some 8) rfl (Fr.refl _ _) ?_;refine tA 9 (some 9) rfl (Fr.refl _ _) ?_;refine tD ?_;go_wp2_with fail;go_ret2;exact⟨rfl,M7.out⟩
end
end
section
section
variable {Rep:World->(Nat->Prop)->Nat->Dv->Prop}{w:World}{S:Nat->Prop}{A C k m F T N p g n R:Nat}{kd:UInt8}{xs:List Dv}{b:List UInt8}{G:Nat->Bool}
theorem jh3 (DK:DrvK Rep)(hn:n=k+m)(hR:R=44*k)(h:Ac13 Rep w S A C k m F T N xs)(hr:RefOk kd p g b.length (44*k))(hp:p<N)(hs:Str xs k (k+m) N kd p g b G):
  Calls Tryz.prog 113 #[.pointer (some ⟨A,0,none⟩), .pointer (some ⟨C,0,none⟩), .agg #[.int .u8 (kd.toNat:Int), .int .i64 (p:Int), .int .u64 (g:Int)]] w λ e w' =>∃A2 n2 c2,e= .returned (.tuple #[.slice A2 n2 c2, .int .i64 (if k<=cntG n G then 0 else 130)])∧NewB w A2 n2 c2 (if k<=cntG n G then b else []) w':=by
 have hk1:=h.c.k1;have hq2:n<=255:=by have:=h.c.n255;omega
 have hq1:1<=n:=by omega
 have hp16:p<65536:=hr.p;have hR16:R<65536:=by rw [hR];exact hr.R
 have hb16:b.length<=R:=by rw [hR];exact hr.z
 have AC:=qH h;have HRo:=qH hr;have Hp:=qH hp;have Hn:=qH hn;have HR:=qH hR;have HK1:=qH hk1;clear h hr hp hn hR hk1;have HS:=qH hs;clear hs;obtain⟨c,hc⟩:∃c,c=cntG n G:=⟨_,rfl⟩;rw [<-hc];have Hc:=qH hc;clear hc
 by_cases hkc:k<=c
 ·rw [if_pos hkc,if_pos hkc]
  have hck:¬(c:Int)<(k:Int):=by omega
  have hb16b:=hb16;have hzv:=jfE;go_enter Tryz.func113,Tryz.ntmps113;go_wp2_with (first
   |(refine jaJ (d:=16) ?_;refine jas (o:=⟨some 16,_,_,_,_,_⟩) rfl _ _ (jem (x:= .tmp 5) rfl rfl (heap_alloc_new w _)) ?_)
   |(refine jaJ (d:=17) ?_;refine jas (o:=⟨some 17,_,_,_,_,_⟩) rfl _ _ (jcb (x:= .tmp 14) (y:= .tmp 15) (z:= .tmp 16) rfl rfl rfl rfl) ?_))
  have hnew:StB ((w.alloc (.cells #[.int .u8 (kd.toNat:Int), .int .i64 (p:Int), .int .u64 (g:Int)] 109)).alloc (.cells #[.pointer (some ⟨A,0,none⟩), .pointer (some ⟨C,0,none⟩), .int .u8 (kd.toNat:Int), .int .i64 (p:Int), .int .u64 (g:Int)] 181)) (w.heap.size+1) A C kd p g:=by
   have:=heap_alloc_new (w.alloc (.cells #[.int .u8 (kd.toNat:Int), .int .i64 (p:Int), .int .u64 (g:Int)] 109)) (.cells #[.pointer (some ⟨A,0,none⟩), .pointer (some ⟨C,0,none⟩), .int .u8 (kd.toNat:Int), .int .i64 (p:Int), .int .u64 (g:Int)] 181);rw [show (w.alloc (.cells #[.int .u8 (kd.toNat:Int), .int .i64 (p:Int), .int .u64 (g:Int)] 109)).heap.size=w.heap.size+1 from by simp] at this;exact this
  have hb1:Below w.heap.size w ((w.alloc (.cells #[.int .u8 (kd.toNat:Int), .int .i64 (p:Int), .int .u64 (g:Int)] 109)).alloc (.cells #[.pointer (some ⟨A,0,none⟩), .pointer (some ⟨C,0,none⟩), .int .u8 (kd.toNat:Int), .int .i64 (p:Int), .int .u64 (g:Int)] 181)):=((Below.refl _ _).alloc (Nat.le_refl _) _).alloc (by simp) _;obtain⟨w1,hw1⟩:∃x,x=((w.alloc (.cells #[.int .u8 (kd.toNat:Int), .int .i64 (p:Int), .int .u64 (g:Int)] 109)).alloc (.cells #[.pointer (some ⟨A,0,none⟩), .pointer (some ⟨C,0,none⟩), .int .u8 (kd.toNat:Int), .int .i64 (p:Int), .int .u64 (g:Int)] 181)):=⟨_,rfl⟩;rw [<-hw1] at hnew hb1 ⊢;obtain⟨B,hB⟩:∃B,B=w.heap.size+1:=⟨_,rfl⟩;rw [<-hB] at hnew ⊢;have HB:=qH (show w.heap.size<=B by omega);have Hs1:=qH hnew;have B1:=qH hb1;clear hw1 hnew hb1 hB hzv;refine(jfC DK (AC.out.later DK B1.out) HRo.out.k1 HRo.out.k4 Hp.out).mono ?_;rintro e w2 ⟨rfl,hb2⟩
  have B2:=qH (B1.out.trans (hb2.mono B1.out.size));have Hs2:=qH (Hs1.out.later hb2);clear hb2;have hwh:=jhZ DK (AC.out.later DK B2.out) HRo.out Hp.out HS.out;rw [<-Hn.out] at hwh;go_wp2_with (first
   |(refine jaJ (d:=24) ?_;refine jas (o:=⟨some 24,_,_,_,_,_⟩) rfl _ w2 (jco (x:= .tmp 8) rfl rfl Hs2.out) ?_))
  refine hwh.mono ?_;clear hwh;rintro e w3 ⟨M,z,rfl,hmv,hzb,hz,hM,hb3⟩;have B3:=qH (B2.out.trans (hb3.mono B2.out.size));have MV:=qH hmv;have HZ:=qH hzb;have HM:=qH (show w2.heap.size<=M∧M<w3.heap.size from ⟨hM,hmv.lt⟩);have hln:=hmv.len 3;rw [<-Hc.out] at hln;have hzz:z=b.length:=hzb (by have:=Hc.out;have:=HK1.out;omega);obtain⟨nb,hnb⟩:∃nb,nb=b.length:=⟨_,rfl⟩;obtain rfl:z=nb:=hzz.trans hnb.symm;have HNB:=qH hnb;clear hb3 hmv hzb hM hzz hnb;go_wp2_with fail;refine(jeE C k m F T w3 (AC.out.c.later B3.out)).mono ?_;rintro e w4 ⟨rfl,hw4⟩;obtain rfl:w3=w4:=hw4.symm;clear hw4;go_wp2_with fail;clear hln;refine(cn13 (AC.out.c.later B3.out) Hn.out).mono ?_;rintro e w4 ⟨rfl,hb4⟩;have B4:=qH (B3.out.trans (hb4.mono B3.out.size));have MV4:=qH (MV.out.later hb4);clear hb4;go_wp2_with fail;refine(jlt MV4.out hq2 (jrh HRo.out HK1.out)).mono ?_;rintro e w5 ⟨A5,rfl,hgr,hb5⟩
  rw [jpx] at hgr;have B5:=qH (B4.out.trans (hb5.mono B4.out.size));have GR:=qH hgr;have hdd:=jpe C k m F T A5 n n (got k n p b G) w5 (AC.out.c.later B5.out) hgr (λ r q=>Nat.le_trans (jpq HK1.out r q) (by decide)) (by omega);have hrt:jaT k m (got k n p b G)=0:=by
   rw [Hn.out];exact jnp HK1.out (by rw [<-Hn.out,<-Hc.out];exact hkc)
  have HRT:=qH hrt;clear hb5 hgr hrt;go_wp2_with fail;refine hdd.mono ?_;clear hdd;rintro e w6 ⟨⟨hx,rfl⟩|⟨_,A6,c6,X,hX,rfl,hG6⟩,hb6⟩
  ·exact absurd HRT.out hx
  have hdt:jdk k ((got k n p b G).getD ((jae (got k n p b G) n).getD 0 0) []).length (solD k X (got k n p b G) ((jae (got k n p b G) n).take k))=cutL b 44 k:=by
   rw [Hn.out] at hX ⊢;exact jpr HK1.out (by rw [<-Hn.out,<-Hc.out];exact hkc) hX
  rw [hdt] at hG6;have B6:=qH (B5.out.trans (hb6.mono B5.out.size));have hj:=jnr C k m F T A6 k c6 (cutL b 44 k) (z:Int) (by omega) (by omega) w6 (AC.out.c.later B6.out) hG6 (λ r q=>by rw [jg8 b 44 k r q];decide);clear hX hdt hG6 hb6 hck;have hwz:wrap64 (z:Int)=(z:Int):=by unfold wrap64;omega
  have hwz2:IntKind.i64.wrap (z:Int)=(z:Int):=by rw [IntKind.wrap_i64];omega
  go_wp2_with fail;clear hwz hwz2;refine hj.mono ?_;clear hj;rintro e w7 ⟨hb7,⟨hx,rfl⟩|⟨_,A7,n7,c7,rfl,hnb7⟩⟩
  ·exfalso
   apply hx
   refine⟨jko b 44 k,by omega, ?_⟩;rw [jrr];have:=HR.out;have:=HNB.out;omega
  rw [Int.toNat_natCast,HNB.out,jnq (by have:=HRo.out.z;omega)] at hnb7;obtain⟨h71,h72,h73⟩:=hnb7;have N7:=qH (show NewB w A7 n7 c7 b w7 from ⟨h71,B6.out.trans (h72.mono B6.out.size),λ bb o hn hA=>by have:=h73 bb o hn hA;have:=B6.out.size;omega⟩);clear hb7 h71 h72 h73;go_wp2_with fail;go_ret2;exact⟨A7,n7,c7,rfl,N7.out⟩
 ·rw [if_neg hkc,if_neg hkc]
  have hck:(c:Int)<(k:Int):=by omega
  have hzv:=jfE;go_enter Tryz.func113,Tryz.ntmps113;go_wp2_with (first
   |(refine jaJ (d:=16) ?_;refine jas (o:=⟨some 16,_,_,_,_,_⟩) rfl _ _ (jem (x:= .tmp 5) rfl rfl (heap_alloc_new w _)) ?_)
   |(refine jaJ (d:=17) ?_;refine jas (o:=⟨some 17,_,_,_,_,_⟩) rfl _ _ (jcb (x:= .tmp 14) (y:= .tmp 15) (z:= .tmp 16) rfl rfl rfl rfl) ?_))
  have hnew:StB ((w.alloc (.cells #[.int .u8 (kd.toNat:Int), .int .i64 (p:Int), .int .u64 (g:Int)] 109)).alloc (.cells #[.pointer (some ⟨A,0,none⟩), .pointer (some ⟨C,0,none⟩), .int .u8 (kd.toNat:Int), .int .i64 (p:Int), .int .u64 (g:Int)] 181)) (w.heap.size+1) A C kd p g:=by
   have:=heap_alloc_new (w.alloc (.cells #[.int .u8 (kd.toNat:Int), .int .i64 (p:Int), .int .u64 (g:Int)] 109)) (.cells #[.pointer (some ⟨A,0,none⟩), .pointer (some ⟨C,0,none⟩), .int .u8 (kd.toNat:Int), .int .i64 (p:Int), .int .u64 (g:Int)] 181);rw [show (w.alloc (.cells #[.int .u8 (kd.toNat:Int), .int .i64 (p:Int), .int .u64 (g:Int)] 109)).heap.size=w.heap.size+1 from by simp] at this;exact this
  have hb1:Below w.heap.size w ((w.alloc (.cells #[.int .u8 (kd.toNat:Int), .int .i64 (p:Int), .int .u64 (g:Int)] 109)).alloc (.cells #[.pointer (some ⟨A,0,none⟩), .pointer (some ⟨C,0,none⟩), .int .u8 (kd.toNat:Int), .int .i64 (p:Int), .int .u64 (g:Int)] 181)):=((Below.refl _ _).alloc (Nat.le_refl _) _).alloc (by simp) _;obtain⟨w1,hw1⟩:∃x,x=((w.alloc (.cells #[.int .u8 (kd.toNat:Int), .int .i64 (p:Int), .int .u64 (g:Int)] 109)).alloc (.cells #[.pointer (some ⟨A,0,none⟩), .pointer (some ⟨C,0,none⟩), .int .u8 (kd.toNat:Int), .int .i64 (p:Int), .int .u64 (g:Int)] 181)):=⟨_,rfl⟩;rw [<-hw1] at hnew hb1 ⊢;obtain⟨B,hB⟩:∃B,B=w.heap.size+1:=⟨_,rfl⟩;rw [<-hB] at hnew ⊢;have HB:=qH (show w.heap.size<=B by omega);have Hs1:=qH hnew;have B1:=qH hb1;clear hw1 hnew hb1 hB hzv;refine(jfC DK (AC.out.later DK B1.out) HRo.out.k1 HRo.out.k4 Hp.out).mono ?_;rintro e w2 ⟨rfl,hb2⟩
  have B2:=qH (B1.out.trans (hb2.mono B1.out.size));have Hs2:=qH (Hs1.out.later hb2);clear hb2;have hwh:=jhZ DK (AC.out.later DK B2.out) HRo.out Hp.out HS.out;rw [<-Hn.out] at hwh;go_wp2_with (first
   |(refine jaJ (d:=24) ?_;refine jas (o:=⟨some 24,_,_,_,_,_⟩) rfl _ w2 (jco (x:= .tmp 8) rfl rfl Hs2.out) ?_))
  refine hwh.mono ?_;clear hwh;rintro e w3 ⟨M,z,rfl,hmv,hzb,hz,hM,hb3⟩;have B3:=qH (B2.out.trans (hb3.mono B2.out.size));have MV:=qH hmv;have HZ:=qH hzb;have HM:=qH (show w2.heap.size<=M∧M<w3.heap.size from ⟨hM,hmv.lt⟩);have hln:=hmv.len 3;rw [<-Hc.out] at hln;clear hb3 hmv hzb hM;go_wp2_with fail;refine(jeE C k m F T w3 (AC.out.c.later B3.out)).mono ?_;rintro e w4 ⟨rfl,hw4⟩;obtain rfl:w3=w4:=hw4.symm;clear hw4;go_wp2_with fail;go_ret2;exact⟨none,0,0,rfl,Sl.nil _ 1 0 (by decide),B3.out,λ bb o h=>absurd h (Nat.lt_irrefl _)⟩
end
end
end Go.Proofs.YtmhejbihdghhaaaGreatDoor

/-
  The contract of the document's There of layer 6
-/
import Derived.Test.YtmhejbihdghhaaaGreatDoorQcag
import Derived.Test.YtmhejbihdghhaaaGreatDoorGa
import Derived.Test.YtmhejbihdghhaaaGreatDoorGe
import Derived.Deep.LoopGhost
namespace Go.Proofs.YtmhejbihdghhaaaGreatDoor
set_option linter.unusedVariables false
open Go.RowKit Go.Proofs
open Go.RowKit
open Go.RowKit
open Go.RowKit Go.Proofs
set_option maxRecDepth 20000
set_option maxHeartbeats 1600000
section
def jae (rs:List (List UInt8))(j:Nat):List Nat:=(List.range j).filter λ i=>decide (0<(rs.getD i []).length)
theorem jfl (rs:List (List UInt8))(j:Nat):jae rs (j+1)=if 0<(rs.getD j []).length then jae rs j ++ [j] else jae rs j:=by
 rw [jae,jae,List.range_succ,List.filter_append]
 by_cases h:0<(rs.getD j []).length
 ·rw [if_pos h,List.filter_cons_of_pos (by simpa using h)]
  rfl
 ·rw [if_neg h,List.filter_cons_of_neg (by simpa using h)]
  simp
theorem jfm (rs:List (List UInt8))(j:Nat):(jae rs j).length<=j:=by
 have:=List.length_filter_le (λ i=>decide (0<(rs.getD i []).length)) (List.range j)
 rwa [List.length_range] at this
theorem jrH (A:Option Addr)(n c:Nat)(rs:List (List UInt8))(w:World)(h:Gr w A n c rs)(hn:n<=1048576):
  Calls Tryz.prog 176 #[.slice A n c] w λ e w' =>(∃A' q c',e= .returned (.slice A' q c')∧Sl w' 1 A' q c' (jay (jae rs n)))∧Below w.heap.size w w':=by
 have H:=qH h;clear h;go_enter Tryz.func176,Tryz.ntmps176;go_wp2_with fail;go_loopw [3,4] (λ v i wr=>∃(j q:Nat) (A':Option Addr) (c':Nat),j<=n∧q<=j∧i= .int .i64 (j:Int)∧v= .slice A' q c' ∧Own wr w.heap.size 3 1 A' q c' (jay (jae rs j))∧Below w.heap.size w wr) (λ _ i _=>n-(intOf i).toNat)
 case atStart=>exact⟨0,0,none,0,by omega,by omega,rfl,rfl,(Own.full (Sl.nil w 1 0 (by decide)):Own w w.heap.size 3 1 none 0 0 []),Below.refl _ _⟩
 case round=>
  obtain⟨j,q,A',c',hj,hq,rfl,rfl,hO,hb⟩:=hrel;have HO:=qH hO;clear hO;have Hb:=qH hb;have hszr:=hb.size;clear hb
  by_cases hlt:j<n
  ·obtain⟨b,o,rfl,hc⟩:=(H.out.later Hb.out).at_ (by omega)
   obtain⟨A1,c1,hc1,hs1⟩:=hc j _ (H.out.get hlt);have hnext:=jfl rs j;obtain⟨L1,hL1⟩:∃L,L=(rs.getD j []).length:=⟨_,rfl⟩;rw [<-hL1] at hc1 hs1 hnext;have hm1:=hs1.lim;unfold maxLen at hm1;clear hc hs1 hL1
   by_cases hpos:0<L1
   ·rw [if_pos hpos] at hnext
    have Hnext:=qH hnext;clear hnext;have hpi:(0:Int)<(L1:Int):=by omega
    have hwin:w.heap.size<=(wr.alloc (.cells #[.int .i64 (j:Int)] 3)).heap.size:=by simp;omega
    go_wp2_with (at_builtin;refine jcS (B:=w.heap.size) rfl (.tmp 17) (.tmp 19) rfl rfl (HO.out.alloc _) hwin (some ⟨wr.heap.size,0,none⟩) 1 1 [j] rfl (Sl.oneN _ _ _ _ rfl) ?pb ?pc)
    case pb=>omega
    intro A2 c2 w2 ho2 hb2 _;rw [<-jdC,<-Hnext.out] at ho2;have Ho2:=qH ho2;clear ho2;have Hb2:=qH ((Hb.out.alloc hszr _).trans hb2);clear hb2;go_wp2_with fail;go_roundw
    case rel=>exact⟨j+1,q+1,A2,c2,by omega,by omega,by go_num,rfl,Ho2.out,Hb2.out⟩
    case measure=>simp [intOf];omega
   ·rw [if_neg hpos] at hnext
    have Hnext:=qH hnext;clear hnext;have hpi:¬((0:Int)<(L1:Int)):=by omega
    go_wp2_with fail;go_roundw
    case rel=>exact⟨j+1,q,A',c',by omega,by omega,by go_num,rfl,by rw [Hnext.out];exact HO.out,Hb.out⟩
    case measure=>simp [intOf];omega
  ·obtain rfl:j=n:=by omega
   go_wp2_with fail;go_ret;exact⟨⟨A',q,c',rfl,HO.out.sl⟩,Hb.out⟩
end
section
theorem gd_11:gd 1 1=1:=jee 1 (by decide)
theorem jmF (F T:Nat)(w:World)(h:Fld w F T):
  Calls Tryz.prog 81 #[.pointer (some ⟨F,0,none⟩)] w (joN F T w (.bool true)):=by
 have hh:=jqK F T 1 1 w h;rw [if_neg (by decide),gd_11] at hh;clear h;go_enter Tryz.func81,Tryz.ntmps81;go_wp2_with fail;refine hh.mono ?_;clear hh;rintro e w1 ⟨rfl,h1,hf1⟩;go_wp2_with fail;go_ret;exact⟨rfl,h1,hf1⟩
theorem jkV (F T:Nat)(w:World)(h:Fld1 w F T):
  Calls Tryz.prog 81 #[.pointer (some ⟨F,0,none⟩)] w λ e w' =>e= .returned (.bool true)∧∃k,w' =w.drewN k:=by
 have hh:=jj6 F T 1 1 (by decide) w h;rw [gd_11] at hh;clear h;go_enter Tryz.func81,Tryz.ntmps81;go_wp2_with fail;refine hh.mono ?_;clear hh;rintro e w1 ⟨rfl,k,rfl⟩;go_wp2_with fail;go_ret;exact⟨rfl,k,rfl⟩
def mayB (k m:Int):Bool:=decide (1<=k∧1<=m∧k+m<=255)
theorem jhy {k m:Int}(h:1<=k∧1<=m∧k+m<=255):mayB k m=true:=decide_eq_true h
theorem jdI {k m:Int}(h:¬(1<=k∧1<=m∧k+m<=255)):mayB k m=false:=decide_eq_false h
theorem jgo (k m:Int)(hk: -9223372036854775808<=k∧k<9223372036854775808)(hm: -9223372036854775808<=m∧m<9223372036854775808)(w:World):
  Calls Tryz.prog 82 #[.agg #[.int .i64 k, .int .i64 m]] w λ e w' =>e= .returned (.bool (mayB k m))∧Below w.heap.size w w':=by
 obtain⟨hk1,hk2⟩:=hk;obtain⟨hm1,hm2⟩:=hm
 by_cases h1:1<=k
 ·by_cases h2:1<=m
  ·by_cases h3:m<=255-k
   ·rw [jhy (by omega)]
    go_enter Tryz.func82,Tryz.ntmps82;go_wp2_with fail;go_ret;exact⟨rfl,(Below.refl _ _).alloc (Nat.le_refl _) _⟩
   ·rw [jdI (by omega)]
    go_enter Tryz.func82,Tryz.ntmps82;go_wp2_with fail;go_ret;exact⟨rfl,(Below.refl _ _).alloc (Nat.le_refl _) _⟩
  ·rw [jdI (by omega)]
   go_enter Tryz.func82,Tryz.ntmps82;go_wp2_with fail;go_ret;exact⟨rfl,(Below.refl _ _).alloc (Nat.le_refl _) _⟩
 ·rw [jdI (by omega)]
  go_enter Tryz.func82,Tryz.ntmps82;go_wp2_with fail;go_ret;exact⟨rfl,(Below.refl _ _).alloc (Nat.le_refl _) _⟩
theorem jkb (k m:Nat)(h:k+m<=255)(w:World):
  Calls Tryz.prog 128 #[.agg #[.int .i64 (k:Int), .int .i64 (m:Int)]] w λ e w' =>e= .returned (.int .i64 ((k+m:Nat):Int))∧Below w.heap.size w w':=by
 go_enter Tryz.func128,Tryz.ntmps128;go_wp2_with fail;go_ret;exact⟨by simp,(Below.refl _ _).alloc (Nat.le_refl _) _⟩
theorem jkc (k m:Nat)(i:Int)(h:k+m<=255)(w:World):
  Calls Tryz.prog 236 #[.agg #[.int .i64 (k:Int), .int .i64 (m:Int)], .int .i64 i] w λ e w' =>e= .returned (.bool (jiT i ((k+m:Nat):Int)))∧Below w.heap.size w w':=by
 by_cases h1:0<=i
 ·by_cases h2:i<((k+m:Nat):Int)
  ·rw [jhx ⟨h1,h2⟩]
   go_enter Tryz.func236,Tryz.ntmps236;go_wp2_with fail;refine(jkb k m h _).mono ?_;rintro e w1 ⟨rfl,hb⟩;go_wp2_with fail;go_ret;exact⟨congrArg (λ b=>Ending.returned (.bool b)) (show decide (i<(k:Int) +(m:Int))=true by simp;omega),((Below.refl _ _).alloc (Nat.le_refl _) _).trans (hb.mono (by simp))⟩
  ·rw [jfa (by omega)]
   go_enter Tryz.func236,Tryz.ntmps236;go_wp2_with fail;refine(jkb k m h _).mono ?_;rintro e w1 ⟨rfl,hb⟩;go_wp2_with fail;go_ret;exact⟨congrArg (λ b=>Ending.returned (.bool b)) (show decide (i<(k:Int) +(m:Int))=false by simp;omega),((Below.refl _ _).alloc (Nat.le_refl _) _).trans (hb.mono (by simp))⟩
 ·rw [jfa (by omega)]
  go_enter Tryz.func236,Tryz.ntmps236;go_wp2_with fail;go_ret;exact⟨rfl,(Below.refl _ _).alloc (Nat.le_refl _) _⟩
structure Cod (w:World)(C k m F T:Nat):Prop where
 row:w.heap[C]? =some (.cells #[.int .i64 (k:Int), .int .i64 (m:Int), .pointer (some ⟨F,0,none⟩)] 153 (0,0))
 fld:Fld1 w F T
 k1:1<=k
 m1:1<=m
 n255:k+m<=255
section
variable {w w':World}{C k m F T:Nat}
theorem Cod.later (h:Cod w C k m F T)(hb:Below w.heap.size w w'):Cod w' C k m F T:=⟨(hb.block _ (block_lt h.row)).trans h.row,h.fld.later hb,h.k1,h.m1,h.n255⟩
theorem Cod.c0 (h:Cod w C k m F T):w.cell? ⟨C,0,none⟩=some (.int .i64 (k:Int)):=by rw [cell_of_row _ _ _ _ _ _ h.row];rfl
theorem Cod.c1 (h:Cod w C k m F T):w.cell? ⟨C,1,none⟩=some (.int .i64 (m:Int)):=by rw [cell_of_row _ _ _ _ _ _ h.row];rfl
theorem Cod.c2 (h:Cod w C k m F T):w.cell? ⟨C,2,none⟩=some (.pointer (some ⟨F,0,none⟩)):=by rw [cell_of_row _ _ _ _ _ _ h.row];rfl
end
theorem jdJ (C k m F T:Nat)(w:World)(h:Cod w C k m F T):
  Calls Tryz.prog 142 #[.pointer (some ⟨C,0,none⟩)] w λ e w' =>e= .returned (.bool true)∧∃j,w' =w.drewN j:=by
 have c2:=h.c2;go_enter Tryz.func142,Tryz.ntmps142;go_wp2_with fail;refine(jkV F T _ h.fld).mono ?_;rintro e w1 ⟨rfl,j,rfl⟩;go_wp2_with fail;go_ret;exact⟨rfl,j,rfl⟩
theorem jeE (C k m F T:Nat)(w:World)(h:Cod w C k m F T):
  Calls Tryz.prog 136 #[.pointer (some ⟨C,0,none⟩)] w λ e w' =>e= .returned (.int .i64 (k:Int))∧w' =w:=by
 have c0:=h.c0;go_enter Tryz.func136,Tryz.ntmps136;go_wp2_with fail;go_ret;exact⟨rfl,rfl⟩
theorem jhz (C k m F T:Nat)(w:World)(h:Cod w C k m F T):
  Calls Tryz.prog 84 #[.pointer (some ⟨C,0,none⟩)] w λ e w' =>e= .returned (.int .i64 ((k+m:Nat):Int))∧Below w.heap.size w w':=by
 have c0:=h.c0;have c1:=h.c1;have h3:=h.n255;have h0:=h.row;have H0:=qH h0;clear h0;go_enter Tryz.func84,Tryz.ntmps84;go_wp2_with fail;refine(jkb k m h3 _).mono ?_;rintro e w1 ⟨rfl,hb⟩;go_wp2_with fail;go_ret;exact⟨rfl,hb⟩
theorem jdK (C k m F T:Nat)(w:World)(h:Cod w C k m F T):
  Calls Tryz.prog 141 #[.pointer (some ⟨C,0,none⟩)] w λ e w' =>e= .returned (.pointer (some ⟨F,0,none⟩))∧w' =w:=by
 have c2:=h.c2;go_enter Tryz.func141,Tryz.ntmps141;go_wp2_with fail;go_ret;exact⟨rfl,rfl⟩
def jqV (k m:Int)(F T:Nat)(w:World)(e:Ending)(w':World):Prop:=
 (mayB k m=false∧e= .returned (.pointer none)∨∃(K M C:Nat),k=(K:Int)∧m=(M:Int)∧e= .returned (.pointer (some ⟨C,0,none⟩))∧Cod w' C K M F T∧w.heap.size<=C)∧Fld1 w' F T∧Fr (Ft T) w w'
theorem jo5 (F T:Nat)(k m:Int)(hk: -9223372036854775808<=k∧k<9223372036854775808)(hm: -9223372036854775808<=m∧m<9223372036854775808)(w:World)(h:Fld w F T):
  Calls Tryz.prog 45 #[.pointer (some ⟨F,0,none⟩), .int .i64 k, .int .i64 m] w (jqV k m F T w):=by
 have hb0:Below w.heap.size w (w.alloc (.cells #[.int .i64 k, .int .i64 m] 150)):=(Below.refl _ _).alloc (Nat.le_refl _) _;have hh:=jmF F T _ (h.later hb0);have hT:=h.ltT;have hnew:=heap_alloc_new w (.cells #[.int .i64 k, .int .i64 m] 150);have Hb0:=qH hb0;clear hb0 h
 by_cases hmay:1<=k∧1<=m∧k+m<=255
 ·have hg:=λ u=>jgo k m hk hm u
  rw [jhy hmay] at hg;obtain⟨K,rfl⟩:∃K:Nat,k=(K:Int):=⟨k.toNat,by omega⟩;obtain⟨M,rfl⟩:∃M:Nat,m=(M:Int):=⟨m.toNat,by omega⟩;have Hmay:=qH hmay;clear hmay;have Hnew:=qH hnew;clear hnew;go_enter Tryz.func45,Tryz.ntmps45;go_wp2_with fail;refine hh.mono ?_;clear hh;rintro e w1 ⟨rfl,h1,hf1⟩;have hrow:=hf1.row_some Hnew.out (by show ¬_=T;omega);have a0:w1.cell? ⟨w.heap.size,0,none⟩=some (.int .i64 (K:Int)):=by rw [cell_of_row _ _ _ _ _ _ hrow];rfl
  have a1:w1.cell? ⟨w.heap.size,1,none⟩=some (.int .i64 (M:Int)):=by rw [cell_of_row _ _ _ _ _ _ hrow];rfl
  have H1:=qH h1;clear h1;have Hf1:=qH ((Fr.of_below Hb0.out:Fr (Ft T) _ _).trans hf1);clear hf1;have Hrow:=qH hrow;clear hrow;go_wp2_with fail;refine(hg _).mono ?_;clear hg;rintro e w2 ⟨rfl,hb2⟩;have hrow2:=(hb2.block _ (block_lt Hrow.out)).trans Hrow.out;have b0:w2.cell? ⟨w.heap.size,0,none⟩=some (.int .i64 (K:Int)):=by rw [cell_of_row _ _ _ _ _ _ hrow2];rfl
  have b1:w2.cell? ⟨w.heap.size,1,none⟩=some (.int .i64 (M:Int)):=by rw [cell_of_row _ _ _ _ _ _ hrow2];rfl
  have Hb2:=qH hb2;clear hb2 a0 a1 hrow2;go_wp2_with fail;go_ret;have hb3:Below w2.heap.size w2 (w2.alloc (.cells #[.int .i64 (K:Int), .int .i64 (M:Int), .pointer (some ⟨F,0,none⟩)] 153)):=(Below.refl _ _).alloc (Nat.le_refl _) _;refine⟨.inr ⟨K,M,w2.heap.size,rfl,rfl,rfl,⟨heap_alloc_new w2 _,(H1.out.later Hb2.out).later hb3, ?_, ?_, ?_⟩,(Hf1.out.trans (Fr.of_below Hb2.out)).size⟩,(H1.out.later Hb2.out).later hb3,(Hf1.out.trans (Fr.of_below Hb2.out)).trans (Fr.of_below hb3)⟩
  all_goals (have:=Hmay.out;omega)
 ·have hg:=λ u=>jgo k m hk hm u
  have hf:=jdI hmay;rw [hf] at hg;have Hf:=qH hf;clear hf;have Hnew:=qH hnew;clear hnew hmay;go_enter Tryz.func45,Tryz.ntmps45;go_wp2_with fail;refine hh.mono ?_;clear hh;rintro e w1 ⟨rfl,h1,hf1⟩;have hrow:=hf1.row_some Hnew.out (by show ¬_=T;omega);have a0:w1.cell? ⟨w.heap.size,0,none⟩=some (.int .i64 k):=by rw [cell_of_row _ _ _ _ _ _ hrow];rfl
  have a1:w1.cell? ⟨w.heap.size,1,none⟩=some (.int .i64 m):=by rw [cell_of_row _ _ _ _ _ _ hrow];rfl
  have H1:=qH h1;clear h1;have Hf1:=qH ((Fr.of_below Hb0.out:Fr (Ft T) _ _).trans hf1);clear hf1 hrow;go_wp2_with fail;refine(hg _).mono ?_;clear hg;rintro e w2 ⟨rfl,hb2⟩;have Hb2:=qH hb2;clear hb2 a0 a1;go_wp2_with fail;go_ret;exact⟨.inl ⟨Hf.out,rfl⟩,H1.out.later Hb2.out,Hf1.out.trans (Fr.of_below Hb2.out)⟩
theorem Fr.madeAll {F T:Nat}{w w':World}(h:Fld1 w F T)(h':Fld1 w' F T)(hf:Fr (Ft T) w w'):Below w.heap.size w w':=
 ⟨hf.os,hf.tape,hf.output,hf.size,λ k hk=>by
  by_cases e:k=T
  ·subst e
   have a:w.heap[k]? =_:=h.tabs;have b:w'.heap[k]? =_:=h'.tabs;rw [a,b]
  ·exact hf.block k hk e⟩
def upto (n:Nat):List UInt8:=(List.range n).map UInt8.ofNat
theorem jbO (n:Nat):(upto n).length=n:=by simp [upto]
theorem jo6 (n i:Nat)(h:i<n):(upto n)[i]? =some (UInt8.ofNat i):=by simp [upto,h]
def jdj (n k:Nat):List UInt8:=(List.range n).map λ i=>if i<k then UInt8.ofNat i else 0
theorem jhA (n k:Nat):(jdj n k).length=n:=by simp [jdj]
theorem jkW (n:Nat):jdj n 0=List.replicate n 0:=by
 apply List.ext_getElem
 ·simp [jdj]
 ·intro i h1 h2
  simp [jdj]
theorem jmG (n:Nat):jdj n n=upto n:=by
 apply List.ext_getElem
 ·simp [jdj,upto]
 ·intro i h1 h2
  rw [jhA] at h1;simp [jdj,upto,h1]
theorem jo7 (n k:Nat)(h:k<n):(jdj n k)[k]? =some 0:=by simp [jdj,h]
theorem jmH (n k:Nat)(h:k<n):(jdj n k).set k (UInt8.ofNat k)=jdj n (k+1):=by
 apply List.ext_getElem
 ·simp [jdj]
 ·intro i h1 h2
  rw [List.getElem_set]
  by_cases he:k=i
  ·subst he
   simp [jdj]
  ·rw [if_neg he]
   have h3:(i<k+1)=(i<k):=by apply propext;omega
   simp only [jdj,List.getElem_map,List.getElem_range,h3]
theorem jdL (n:Nat)(hn:n<=255)(w:World):
  Calls Tryz.prog 238 #[.int .i64 (n:Int)] w (jcw w.heap.size w (upto n)):=by
 have hmk:=jb9 (n:Int) n rfl (by omega);go_enter Tryz.func238,Tryz.ntmps238;go_wp2_with fail;go_loopw [9] (λ i wr=>∃k:Nat,k<=n∧i= .int .i64 (k:Int)∧Mine wr w.heap.size 5 (some ⟨w.heap.size,0,none⟩) n (cells (jdj n k))∧Below w.heap.size w wr) (λ i _=>n-(intOf i).toNat)
 case atStart=>exact⟨0,by omega,rfl,by rw [jkW];exact Mine.noughts w n,(Below.refl _ _).alloc (Nat.le_refl _) _⟩
 case round=>
  obtain⟨k,hk,rfl,hm,hb⟩:=hrel
  by_cases hlt:k<n
  ·obtain⟨g,hg,hB,hc,hz⟩:=hm.at_ hlt (jo7 n k hlt)
   injection hg with hg
   injection hg with hg _
   subst hg;have hset:=hm.set hlt (UInt8.ofNat k);rw [jmH n k hlt,UInt8.toNat_ofNat',show k % 2 ^ 8=k from by omega] at hset;have Hset:=qH hset;clear hset;have Hm:=qH hm;clear hm;have hwr:wrap64 (k:Int)=(k:Int):=by unfold wrap64;omega
   go_wp2_with fail;go_roundw
   case rel=>exact⟨k+1,by omega,by go_num,Hset.out,hb.setCell (Nat.le_refl _) _⟩
   case measure=>simp [intOf];omega
  ·obtain rfl:k=n:=by omega
   have Hm:=qH hm;clear hm;go_wp2_with fail;go_ret;have:=Hm.out;rw [jmG] at this;exact⟨_,_,_,rfl,this.sl (jbO _) (Nat.le_refl _) (by unfold maxLen;omega),hb,this⟩
end
section
theorem jhB (F T:Nat)(c:UInt8)(A:Option Addr)(m cq:Nat)(r:List UInt8)(A2:Option Addr)(n cp:Nat)(l:List UInt8)(w:World)(h:Fld1 w F T)(hr:Sl w 1 A m cq (cells r))(hl:Sl w 1 A2 n cp (cells l))(hn30:n<=1073741824):
  Calls Tryz.prog 202 #[.pointer (some ⟨F,0,none⟩), .int .u8 (c.toNat:Int), .slice A m cq, .slice A2 n cp] w (jcw w.heap.size w (fld c r l)):=by
 have hll:=hl.len;rw [jaa,Nat.mul_one] at hll;have hmk:=jb9 (n:Int) n rfl hn30;have hlt:=λ b o hn hA=>hr.lt (b:=b) (o:=o) (by decide) hn hA
 have hT:=h.fld.ltT;have Hr:=qH hr;clear hr;have Hl:=qH hl;clear hl;have Hlt:=qH hlt;clear hlt;go_enter Tryz.func202,Tryz.ntmps202;go_wp2_with fail;refine(jfc F T _ h).mono ?_;rintro e w1 ⟨rfl,k,hw1⟩;have hb1:Below w.heap.size w w1:=by rw [hw1];exact below_drewN (Below.refl _ _) k
 have H1:=qH (h.later hb1);have hsz:w1.heap.size=w.heap.size:=by rw [hw1];rfl
 have Hsz:=qH hsz;clear h hw1;have hs1:=hb1.size;have Hq:=qH (Hr.out.below hb1 (Nat.le_refl _));have Hq2:=qH (Hl.out.below hb1 (Nat.le_refl _));have Hb1:=qH hb1;clear hb1 hsz;have hb2:Below w1.heap.size w1 (w1.alloc (.cells (madeCells #[.int .u8 0] n) 5)):=(Below.refl _ _).alloc (Nat.le_refl _) _;obtain⟨w2,hcp,hm2,hf2⟩:=jeC (cd:=n) (Mine.noughts w1 n) (Hq2.out.below hb2 (Nat.le_refl _)) 3;have hb3:Below w1.heap.size w1 w2:=hb2.trans (hf2.below hb2.size (by rintro k rfl;exact Nat.le_refl _));have Hm2:=qH hm2;clear hm2;clear hf2 hb2;go_wp2_with fail;clear hcp;refine(jiP T w1.heap.size n n l A m cq r c _ (H1.out.later hb3).tabs w1.heap.size hb3.size hll Hq2.out.lim Hm2.out (by omega) (Hq.out.below hb3 (Nat.le_refl _)) ?_).mono ?_
 ·intro b o hn hA
  have:=Hlt.out b o hn hA;omega
 rintro e w3 ⟨rfl,hm3,hb4⟩;have hb:=hb3.trans hb4;go_wp2_with fail;go_ret;exact⟨_,_,_,rfl,hm3.sl (by rw [jgh,hll]) (Nat.le_refl _) Hq2.out.lim,Hb1.out.trans (hb.mono hs1),hm3.lower hs1⟩
def jbP (rs:List (List UInt8)):Bool:=decide (∀j,j<rs.length->(rs.getD j []).length=(rs.getD 0 []).length)
def jca (rs:List (List UInt8))(k:Int):Bool:=decide ((rs.length:Int)=k) && jbP rs
theorem jmI (A:Option Addr)(n c:Nat)(rs:List (List UInt8))(w:World)(h:Gr w A n c rs):
  Calls Tryz.prog 235 #[.slice A n c] w λ e w' =>e= .returned (.bool (jbP rs))∧w' =w:=by
 have hlim:=h.lim;have hlen:=h.len;unfold maxLen at hlim;have H:=qH h;clear h;have Hlen:=qH hlen;clear hlen;go_enter Tryz.func235,Tryz.ntmps235;go_wp2_with fail;go_loopw [7] (λ i wr=>∃k:Nat,k<=n∧i= .int .i64 (k:Int)∧(∀j,j<k->(rs.getD j []).length=(rs.getD 0 []).length)∧wr=w) (λ i _=>n-(intOf i).toNat)
 case atStart=>exact⟨0,by omega,rfl,λ j hj=>absurd hj (by omega),rfl⟩
 case round=>
  obtain⟨k,hk,rfl,hall,rfl⟩:=hrel;have Hall:=qH hall;clear hall
  by_cases hlt:k<n
  ·obtain⟨b,o,rfl,hc⟩:=H.out.at_ (by omega)
   obtain⟨A1,c1,hc1,hs1⟩:=hc k _ (H.out.get hlt);obtain⟨A0,c0,hc0,hs0⟩:=hc 0 _ (H.out.get (by omega));rw [Nat.add_zero] at hc0;obtain⟨L1,hL1⟩:∃L,L=(rs.getD k []).length:=⟨_,rfl⟩;obtain⟨L0,hL0⟩:∃L,L=(rs.getD 0 []).length:=⟨_,rfl⟩;rw [<-hL1] at hc1 hs1;rw [<-hL0] at hc0 hs0;have hm1:=hs1.lim;have hm0:=hs0.lim;unfold maxLen at hm1 hm0;clear hc hs1 hs0;have HL1:=qH hL1;clear hL1;have HL0:=qH hL0;clear hL0
   by_cases heq:L1=L0
   ·have hz:(((L1:Int) !=(L0:Int)))=false:=by simp [heq]
    have Heq:=qH heq;clear heq;go_wp2_with fail;go_roundw
    case rel=>exact⟨k+1,by omega,by go_num,λ j hj=>by
     by_cases hjk:j=k
     ·subst hjk
      rw [<-HL1.out,<-HL0.out,Heq.out]
     ·exact Hall.out j (by omega),trivial⟩
    case measure=>simp [intOf];omega
   ·have hz:(((L1:Int) !=(L0:Int)))=true:=by simp;omega
    have Heq:=qH heq;clear heq;go_wp2_with fail;go_ret;have:jbP rs=false:=decide_eq_false λ hh=>Heq.out (by rw [HL1.out,HL0.out];exact hh k (by rw [Hlen.out];exact hlt))
    exact⟨by rw [this];rfl,rfl⟩
  ·obtain rfl:k=n:=by omega
   go_wp2_with fail;go_ret;have:jbP rs=true:=decide_eq_true λ j hj=>Hall.out j (by rw [<-Hlen.out];exact hj)
   exact⟨by rw [this];rfl,rfl⟩
theorem jhC (k m:Int)(A:Option Addr)(n c:Nat)(rs:List (List UInt8))(w:World)(h:Gr w A n c rs):
  Calls Tryz.prog 199 #[.agg #[.int .i64 k, .int .i64 m], .slice A n c] w λ e w' =>e= .returned (.bool (jca rs k))∧Below w.heap.size w w':=by
 have hlim:=h.lim;have hlen:=h.len;unfold maxLen at hlim
 by_cases hn:(n:Int)=k
 ·have hz:((n:Int)==k)=true:=by simpa using hn
  have hd:jca rs k=jbP rs:=by rw [jca,hlen,decide_eq_true hn,Bool.true_and]
  rw [hd];have Hn:=qH hn;clear hn hd;go_enter Tryz.func199,Tryz.ntmps199;go_wp2_with fail;refine(jmI A n c rs _ (h.later ((Below.refl _ _).alloc (Nat.le_refl _) _))).mono ?_;rintro e w1 ⟨rfl,rfl⟩;go_wp2_with fail;go_ret;exact⟨rfl,(Below.refl _ _).alloc (Nat.le_refl _) _⟩
 ·have hz:((n:Int)==k)=false:=by simpa using hn
  have hd:jca rs k=false:=by rw [jca,hlen,decide_eq_false hn,Bool.false_and]
  rw [hd];have Hn:=qH hn;clear hn hd;go_enter Tryz.func199,Tryz.ntmps199;go_wp2_with fail;go_ret;exact⟨rfl,(Below.refl _ _).alloc (Nat.le_refl _) _⟩
def sumR (W:Nat)(f:List UInt8)(rs:List (List UInt8))(j:Nat):List UInt8:=rowL W λ p=>xs j λ i=>gm (f.getD i 0) ((rs.getD i []).getD p 0)
theorem jdM (W:Nat)(f:List UInt8)(rs:List (List UInt8)):sumR W f rs 0=List.replicate W 0:=by
 apply List.ext_getElem
 ·simp [sumR,rowL]
 ·intro i h1 h2
  simp [sumR,rowL,xs]
theorem jcA (W:Nat)(f:List UInt8)(rs:List (List UInt8))(j:Nat):(sumR W f rs j).length=W:=jag _ _
theorem jhD (W:Nat)(f:List UInt8)(rs:List (List UInt8))(j:Nat)(h:(rs.getD j []).length=W):fld (f.getD j 0) (rs.getD j []) (sumR W f rs j)=sumR W f rs (j+1):=by
 rw [<-jqS h,sumR,jj9]
 apply jbn
 intro k hk;rw [xs]
theorem jbt {rs:List (List UInt8)}(h:jbP rs=true){j:Nat}(hj:j<rs.length):(rs.getD j []).length=(rs.getD 0 []).length:=(of_decide_eq_true h) j hj
theorem jfn:∀args w,(callFunc 202 args).run Tryz.prog w= .ok (.enter 202 args) w:=enters_of Tryz.func202 (by kernel_rfl) rfl
theorem jkX (F T:Nat)(Af:Option Addr)(nf cf:Nat)(f:List UInt8)(A:Option Addr)(n c:Nat)(rs:List (List UInt8))(w:World)(h:Fld1 w F T)(hf:Sl w 1 Af nf cf (cells f))(hg:Gr w A n c rs)(h1:1<=n)(hn:n<=nf)(hlv:jbP rs=true)(hW:(rs.getD 0 []).length<=1048576):
  Calls Tryz.prog 200 #[.slice Af nf cf, .slice A n c, .func (.func 202) #[.pointer (some ⟨F,0,none⟩)] #[]] w (jcw w.heap.size w (sumR (rs.getD 0 []).length f rs n)):=by
 have hlim:=hf.lim;have hfl:=hf.len;rw [jaa,Nat.mul_one] at hfl;have hlen:=hg.len;unfold maxLen at hlim;obtain⟨W,hWd⟩:∃W,W=(rs.getD 0 []).length:=⟨_,rfl⟩;rw [<-hWd] at hW ⊢;have hmk:=jb9 (W:Int) W rfl (by omega);obtain⟨b,o,rfl,hc⟩:=hg.at_ (by omega);obtain⟨A0,c0,hc0,hs0⟩:=hc 0 _ (hg.get (by omega));rw [<-hWd,Nat.add_zero] at hc0;have Hf:=qH hf;clear hf;have Hg:=qH hg;clear hg;have H:=qH h;clear h;have HWd:=qH hWd;clear hWd;have Hlen:=qH hlen;clear hlen;have Hfl:=qH hfl;clear hfl;clear hc hs0;go_enter Tryz.func200,Tryz.ntmps200;go_wp2_with fail;go_loopw [7,17] (λ v i wr=>∃(k:Nat) (A':Option Addr) (n' c':Nat),k<=n∧i= .int .i64 (k:Int)∧v= .slice A' n' c' ∧Sl wr 1 A' n' c' (cells (sumR W f rs k))∧Mine wr w.heap.size 5 A' n' (cells (sumR W f rs k))∧Below w.heap.size w wr) (λ _ i _=>n-(intOf i).toNat)
 case atStart=>exact⟨0,_,_,_,by omega,rfl,rfl,by rw [jdM];exact Sl.noughts w W (by unfold maxLen;omega),by rw [jdM];exact Mine.noughts w W,(Below.refl _ _).alloc (Nat.le_refl _) _⟩
 case round=>
  obtain⟨k,A',n',c',hk,rfl,rfl,hs,hm,hb⟩:=hrel;have hn':n' =W:=by
   have:=hs.len;rw [jaa,jcA] at this;omega
  subst hn';have Hs:=qH hs;clear hs;have Hm:=qH hm;clear hm;have Hb:=qH hb;clear hb
  by_cases hlt:k<n
  ·obtain⟨b',o',e,hc⟩:=(Hg.out.later Hb.out).at_ (by omega)
   injection e with e
   injection e with e1 e2
   subst e1;subst e2;obtain⟨Ak,ck,hck,hsk⟩:=hc k _ (Hg.out.get hlt);have hlk:(rs.getD k []).length=n':=by rw [HWd.out];exact jbt hlv (by rw [Hlen.out];exact hlt)
   rw [hlk] at hck hsk;have Hlk:=qH hlk;clear hlk;clear hc;have hkf:k<f.length:=by rw [Hfl.out];omega
   obtain⟨bf,of,rfl,hcf⟩:=(Hf.out.below Hb.out (Nat.le_refl _)).at_ (k:=k) (by omega);have hcell:=hcf k _ (jaE f k hkf);rw [bv] at hcell;obtain⟨y,hy⟩:∃y,y=f[k]:=⟨_,rfl⟩;rw [<-hy] at hcell;have Hy:=qH hy;clear hy;have Hcf:=qH hcf;clear hcf;have Hsk:=qH hsk;clear hsk;have hbo:wr.heap.size=wr.heap.size:=rfl;have hef:=jfn;go_wp2_with fail;have hh:=jhB F T y Ak n' ck (rs.getD k []) A' n' c' (sumR n' f rs k) wr (H.out.later Hb.out) Hsk.out Hs.out (by omega);refine hh.mono ?_;clear hh;rintro e w2 ⟨A2,n2,c2,rfl,hs2,hb2,hm2⟩;have hnext:fld y (rs.getD k []) (sumR n' f rs k)=sumR n' f rs (k+1):=by
    rw [Hy.out,<-jhD n' f rs k Hlk.out,show f.getD k 0=f[k] from by simp [hkf]]
   rw [hnext] at hs2 hm2;have Hs2:=qH hs2;clear hs2;have Hm2:=qH hm2;clear hm2;have hsz:=Hb.out.size;have Hb2:=qH (Hb.out.trans (hb2.mono hsz));clear hb2 hnext;go_wp2_with fail;go_roundw
   case rel=>exact⟨k+1,A2,n2,c2,by omega,by go_num,rfl,Hs2.out,Hm2.out.lower hsz,Hb2.out⟩
   case measure=>simp [intOf];omega
  ·obtain rfl:k=n:=by omega
   go_wp2_with fail;go_ret;exact⟨A',_,c',rfl,Hs.out,Hb.out,Hm.out⟩
end
section
def facB (k i j:Nat):UInt8:=if i<k then(if i=j then 1 else 0) else ginv (UInt8.ofNat i ^^^ UInt8.ofNat j)
def rowC (k i:Nat):List UInt8:=(List.range k).map (facB k i)
theorem jcB (k i:Nat):(rowC k i).length=k:=by simp [rowC]
theorem jfo (k i j:Nat)(h:j<k):(rowC k i).getD j 0=facB k i j:=by simp [rowC,h]
def rowI (k m:Nat)(i:Int):List UInt8:=if 0<=i∧i<((k+m:Nat):Int) then rowC k i.toNat else []
theorem jmJ (k i:Nat)(h:i<k):(List.replicate k (0:UInt8)).set i 1=rowC k i:=by
 apply List.ext_getElem
 ·simp [rowC]
 ·intro j h1 h2
  simp only [rowC,List.getElem_map,List.getElem_range,facB,if_pos h,List.getElem_set,List.getElem_replicate]
theorem jo8 (k i:Nat)(h:k<=i):tabL 1 k (cauM [UInt8.ofNat i] (upto k))=rowC k i:=by
 apply List.ext_getElem
 ·rw [jcy,jcB,Nat.one_mul]
 ·intro j h1 h2
  rw [jcB] at h2;have hd:j / k=0:=Nat.div_eq_of_lt h2;have hm:j % k=j:=Nat.mod_eq_of_lt h2;simp only [tabL,rowC,List.getElem_map,List.getElem_range,hd,hm,cauM,facB,if_neg (show ¬i<k by omega)]
  congr 2
  rw [List.getD_eq_getElem?_getD,jo6 k j h2,Option.getD_some]
theorem jfp {a b:Nat}(ha:a<256)(hb:b<256)(h:UInt8.ofNat a=UInt8.ofNat b):a=b:=by
 have:=congrArg UInt8.toNat h;rw [UInt8.toNat_ofNat',UInt8.toNat_ofNat'] at this;omega
theorem jmK (k i:Nat)(h:k<=i)(hi:i<=255):jgn ([UInt8.ofNat i] ++ upto k)=false:=by
 refine decide_eq_false λ hh=>hh ?_
 rw [List.nodup_append];refine⟨by simp, ?_, ?_⟩
 ·rw [List.nodup_iff_pairwise_ne,upto,List.pairwise_map]
  refine List.Pairwise.imp_of_mem ?_ (List.nodup_iff_pairwise_ne.1 (List.nodup_range (n:=k)));intro a b ha hb hne e;have ha':=List.mem_range.1 ha;have hb':=List.mem_range.1 hb;exact hne (jfp (by omega) (by omega) e)
 ·intro a ha b hb e
  rw [List.mem_singleton] at ha;obtain⟨j,hj,rfl⟩:=List.mem_map.1 hb;have:=List.mem_range.1 hj;rw [ha] at e;have:=jfp (by omega) (by omega) e;omega
theorem sl_one {w:World}{g:Nat}{z:Int}{u:UInt8}(hg:w.heap[g]? =some (.cells #[.int .u8 z] 5 (0,0)))(hz:z=(u.toNat:Int)):Sl w 1 (some ⟨g,0,none⟩) 1 1 (cells [u]):=by
 subst hz;exact⟨rfl,Nat.le_refl _,by decide,λ j v hv=>⟨g,0,rfl,by rw [cell_of_row _ _ _ _ _ _ hg,Nat.zero_add];simpa [cells,bv] using hv⟩⟩
theorem jfq (C k m F T i g:Nat)(A2:Option Addr)(c2:Nat)(hk:k<=i)(hi:i<k+m)(w:World)(h:Cod w C k m F T)
  (hg:w.heap[g]? =some (.cells #[.int .u8 (IntKind.u8.wrap (i:Int))] 5 (0,0)))(hgT:g≠T)(s2:Sl w 1 A2 k c2 (cells (upto k)))(h2:∀b o,A2=some ⟨b,o,none⟩->b≠T):
  Calls Tryz.prog 237 #[.pointer (some ⟨F,0,none⟩), .slice (some ⟨g,0,none⟩) 1 1, .slice A2 k c2] w λ e w' =>
   ∃A n c,e= .returned (.tuple #[.agg #[.int .i64 1, .int .i64 (k:Int), .slice A n c], .int .i64 0])∧Sl w' 1 A n c (cells (rowC k i))∧(∀b o,A=some ⟨b,o,none⟩->w.heap.size<=b∧b<w'.heap.size)∧Below w.heap.size w w':=by
 have h1:=h.k1;have h3:=h.n255;have hh:=jkU F T (some ⟨g,0,none⟩) 1 1 [UInt8.ofNat i] A2 k c2 (upto k) w h.fld.fld ⟨sl_one hg (by rw [UInt8.toNat_ofNat',IntKind.wrap_u8];omega),λ b o _ e=>by injection e with e;injection e with e _;omega⟩ ⟨s2,λ b o _ e=>h2 b o e⟩ ⟨by omega,by omega⟩ ⟨h1,by omega⟩ (jmK k i hk (by omega));refine hh.mono ?_;rintro e w' ⟨⟨A,c,rfl,hgr⟩,hf,hr⟩;have hn:0<1*k:=by omega
 refine⟨A,1*k,c,rfl,by rw [<-jo8 k i hk];exact hgr.own.sl,λ b o e=>⟨jbN (hgr.row hn) hn e,hgr.own.sl.lt (by decide) hn e⟩,Fr.madeAll h.fld hf hr⟩
theorem jo9 (C k m F T:Nat)(i:Int)(hi1: -9223372036854775808<=i)(hi2:i<9223372036854775808)(w:World)(h:Cod w C k m F T):
  Calls Tryz.prog 201 #[.pointer (some ⟨C,0,none⟩), .int .i64 i] w (jdA w.heap.size w (rowI k m i)):=by
 have hm:=jdJ C k m F T w h;have h3:=h.n255;have hCT:T<w.heap.size:=h.fld.fld.ltT;have H:=qH h;clear h
 by_cases hin:0<=i∧i<((k+m:Nat):Int)
 ·obtain⟨I,rfl⟩:∃I:Nat,i=(I:Int):=⟨i.toNat,by omega⟩
  have hg:=λ u=>jkc k m (I:Int) h3 u
  rw [jhx hin] at hg;rw [rowI,if_pos hin,Int.toNat_natCast];have hI:I<k+m:=by omega
  clear hin
  by_cases hlt:I<k
  ·have hmk:=jb9 (k:Int) k rfl (by omega)
   go_enter Tryz.func201,Tryz.ntmps201;go_wp2_with fail;refine hm.mono ?_;clear hm;rintro e w1 ⟨rfl,j,hw1⟩;have hb1:Below w.heap.size w w1:=by rw [hw1];exact below_drewN (Below.refl _ _) j
   clear hw1;have H1:=qH (H.out.later hb1);have c0:=H1.out.c0;have c1:=H1.out.c1;go_wp2_with fail;refine(hg _).mono ?_;clear hg;rintro e w2 ⟨rfl,hb2⟩;have H2:=qH (H1.out.later hb2);have hb:=hb1.trans (hb2.mono hb1.size);clear c0 c1 hb1 hb2;have c0:=H2.out.c0;obtain⟨g,hg',hB,hc,hz⟩:=(Mine.noughts w2 k).at_ hlt (show (List.replicate k (0:UInt8))[I]? =some 0 by simp [hlt]);injection hg' with hg'
   injection hg' with hg' _
   subst hg';have hs:=Sl.made w2 ((madeCells #[.int .u8 0] k).setIfInBounds I (.int .u8 1)) 5 1 k (by rw [Array.size_setIfInBounds,size_madeCells,Nat.mul_one]) (by unfold maxLen;omega);rw [Array.toList_setIfInBounds,toList_madeCells_one,show (List.replicate k (Value.int .u8 0)).set I (.int .u8 1)=cells (rowC k I) from by rw [<-jmJ k I hlt,cells,List.map_set,List.map_replicate];rfl] at hs;have Hs:=qH hs;clear hs;go_wp2_with fail;go_ret;exact⟨_,_,_,rfl,Hs.out,hb.alloc hb.size _⟩
  ·have hlt':k<=I:=by omega
   go_enter Tryz.func201,Tryz.ntmps201;go_wp2_with fail;refine hm.mono ?_;clear hm;rintro e w1 ⟨rfl,j,hw1⟩;have hb1:Below w.heap.size w w1:=by rw [hw1];exact below_drewN (Below.refl _ _) j
   clear hw1;have H1:=qH (H.out.later hb1);have c0:=H1.out.c0;have c1:=H1.out.c1;go_wp2_with fail;refine(hg _).mono ?_;clear hg;rintro e w2 ⟨rfl,hb2⟩;have H2:=qH (H1.out.later hb2);have hb:=hb1.trans (hb2.mono hb1.size);have hsz2:=hb.size;have Hb:=qH hb;clear c0 c1 hb1 hb2 hb;have c0:=H2.out.c0;go_upto_region 7 with (fail)
   clear c0;refine wp_region_held_drew (S:=λ w' =>Below w2.heap.size w2 w') (by kernel_rfl) (Below.drew (Below.refl _ _)) (λ hHeld=> ?_);clear hHeld;have hHeld:Below w2.heap.size w2 w2.drew:=Below.drew (Below.refl _ _);have hz_0:w2.heap.size<=w2.drew.heap.size∧w2.drew.heap.size<=w2.heap.size:=⟨Nat.le_refl _,Nat.le_refl _⟩;obtain⟨v_W0,hw⟩:∃v_W0,v_W0=w2.drew:=⟨_,rfl⟩;rw [<-hw] at hHeld hz_0 ⊢;clear hw;refine tA 0 (some 38) rfl hHeld ?_;refine tA 1 (some 39) rfl hHeld ?_;refine tA 2 (some 40) rfl hHeld ?_;refine tA 3 (some 41) rfl hHeld ?_ (λ wq hSw=>by
    have q0:=(hSw.cell (World.block_lt_of_cell? w2 _ H2.out.c2)).trans H2.out.c2;go_simp<;>with_reducible rfl)
   refine tA 4 (some 42) rfl hHeld ?_;refine tA 5 (some 43) rfl hHeld ?_;refine tA 7 (some 45) rfl hHeld ?_;refine tA 8 (some 46) rfl hHeld ?_;refine tA 9 (some 47) rfl hHeld ?_;refine tA 10 (some 48) rfl hHeld ?_;refine tA 11 (some 49) rfl hHeld ?_ (λ wq hSw=>by
    have q0:=(hSw.cell (World.block_lt_of_cell? w2 _ H2.out.c0)).trans H2.out.c0;go_simp<;>with_reducible rfl)
   refine wpAnyH_ready (rs:= [6,12,17]) (by kernel_rfl) (by simp) ?_;refine AllReadyH.cons (o:=⟨some 44,_,_,_,_,_⟩) rfl (λ K hK=> ?_) (AllReadyH.cons (o:=⟨some 50,_,_,_,_,_⟩) rfl (λ K hK=> ?_) (AllReadyH.cons (o:=⟨some 6,_,_,_,_,_⟩) rfl (λ K hK=> ?_) (AllReadyH.nil)))
   focus
    go_simp;obtain⟨g_xs,hg⟩:∃g,g=v_W0.heap.size:=⟨_,rfl⟩;have hbN:Below v_W0.heap.size v_W0 (v_W0.alloc (.cells #[.int .u8 (IntKind.u8.wrap (I:Int))] 5)):=(Below.refl _ _).alloc (Nat.le_refl _) _;have hx:=heap_alloc_new v_W0 (.cells #[.int .u8 (IntKind.u8.wrap (I:Int))] 5);have hz_3:v_W0.heap.size+1<=(v_W0.alloc (.cells #[.int .u8 (IntKind.u8.wrap (I:Int))] 5)).heap.size∧(v_W0.alloc (.cells #[.int .u8 (IntKind.u8.wrap (I:Int))] 5)).heap.size<=v_W0.heap.size+1:=by simp
    obtain⟨v_W1,hw⟩:∃v_W1,v_W1=v_W0.alloc (.cells #[.int .u8 (IntKind.u8.wrap (I:Int))] 5):=⟨_,rfl⟩;rw [<-hw] at hbN hx hz_3 ⊢;clear hw;rw [<-hg] at hx ⊢;have hHeld:=hHeld.trans (hbN.mono hHeld.size);have hfN:Fr (λ _=>False) v_W0 v_W1:=Fr.of_below hbN;clear hbN;have blxs_L1:=qH hx;clear hx;have hz_5:g_xs<=v_W0.heap.size∧v_W0.heap.size<=g_xs:=by omega
    clear hg;refine hK.out _ _ hHeld λ _=> ?_
    clear hK K hfN
    try simp only [Act.put,sA,sB,sC]
   rotate_left
   focus
    go_simp;have hh:=jdL k (by omega) v_W0;refine hh.mono ?_;clear hh;rintro e v_W1 ⟨A2,n2,c2,rfl,hs2,hbN,hm2⟩;obtain rfl:n2=k:=by
     have:=hs2.len;rw [jaa,jbO,Nat.mul_one] at this;exact this.symm
    have hA2:∀b o,A2=some ⟨b,o,none⟩->w2.heap.size<=b:=λ b o e=>by
     obtain⟨g,cur,e',hg,_⟩:=hm2 H2.out.k1;rw [e] at e';injection e' with e';injection e' with e' _
     have:=hHeld.size;omega
    have ys_L1:=qH hs2;clear hs2 hm2;have hfN:Fr (λ _=>False) v_W0 v_W1:=Fr.of_below hbN;have hH2:=hHeld.trans (hbN.mono hHeld.size);clear hbN;go_wp2_with fail;have hHeld:=hH2;clear hH2;have hz_9:=hfN.size;refine hK.out _ _ hHeld λ _=> ?_
    clear hK K hfN
    try simp only [Act.put,sA,sB,sC]
   rotate_left
   focus
    go_simp;obtain⟨g_box,hg⟩:∃g,g=v_W0.heap.size:=⟨_,rfl⟩;have hbN:Below v_W0.heap.size v_W0 (v_W0.alloc (.cells #[.int .i64 0, .int .i64 0, .slice none 0 0] 338)):=(Below.refl _ _).alloc (Nat.le_refl _) _;have hx:=heap_alloc_new v_W0 (.cells #[.int .i64 0, .int .i64 0, .slice none 0 0] 338);have hz_11:v_W0.heap.size+1<=(v_W0.alloc (.cells #[.int .i64 0, .int .i64 0, .slice none 0 0] 338)).heap.size∧(v_W0.alloc (.cells #[.int .i64 0, .int .i64 0, .slice none 0 0] 338)).heap.size<=v_W0.heap.size+1:=by simp
    obtain⟨v_W1,hw⟩:∃v_W1,v_W1=v_W0.alloc (.cells #[.int .i64 0, .int .i64 0, .slice none 0 0] 338):=⟨_,rfl⟩;rw [<-hw] at hbN hx hz_11 ⊢;clear hw;rw [<-hg] at hx ⊢;have hHeld:=hHeld.trans (hbN.mono hHeld.size);have hfN:Fr (λ _=>False) v_W0 v_W1:=Fr.of_below hbN;clear hbN;have blbox_L1:=qH hx;clear hx;have hz_13:g_box<=v_W0.heap.size∧v_W0.heap.size<=g_box:=by omega
    clear hg;refine hK.out _ _ hHeld λ _=> ?_
    clear hK K hfN
    try simp only [Act.put,sA,sB,sC]
   rotate_left
   all_goals first
    |
     refine wpAnyH_ready (rs:= [12,17]) (by kernel_rfl) (by simp) ?_;refine AllReadyH.cons (o:=⟨some 50,_,_,_,_,_⟩) rfl (λ K hK=> ?_) (AllReadyH.cons (o:=⟨some 6,_,_,_,_,_⟩) rfl (λ K hK=> ?_) (AllReadyH.nil))
     focus
      go_simp;have hh:=jdL k (by omega) v_W1;refine hh.mono ?_;clear hh;rintro e v_W2 ⟨A2,n2,c2,rfl,hs2,hbN,hm2⟩;obtain rfl:n2=k:=by
       have:=hs2.len;rw [jaa,jbO,Nat.mul_one] at this;exact this.symm
      have hA2:∀b o,A2=some ⟨b,o,none⟩->w2.heap.size<=b:=λ b o e=>by
       obtain⟨g,cur,e',hg,_⟩:=hm2 H2.out.k1;rw [e] at e';injection e' with e';injection e' with e' _
       have:=hHeld.size;omega
      have ys_L2:=qH hs2;clear hs2 hm2;have hfN:Fr (λ _=>False) v_W1 v_W2:=Fr.of_below hbN;have hH2:=hHeld.trans (hbN.mono hHeld.size);clear hbN;go_wp2_with fail;have hHeld:=hH2;clear hH2;have hz_17:=hfN.size;have blxs_L2:=qH (hfN.row_some blxs_L1.out id);clear blxs_L1;refine hK.out _ _ hHeld λ _=> ?_
      clear hK K hfN
      try simp only [Act.put,sA,sB,sC]
     rotate_left
     focus
      go_simp;obtain⟨g_box,hg⟩:∃g,g=v_W1.heap.size:=⟨_,rfl⟩;have hbN:Below v_W1.heap.size v_W1 (v_W1.alloc (.cells #[.int .i64 0, .int .i64 0, .slice none 0 0] 338)):=(Below.refl _ _).alloc (Nat.le_refl _) _;have hx:=heap_alloc_new v_W1 (.cells #[.int .i64 0, .int .i64 0, .slice none 0 0] 338);have hz_20:v_W1.heap.size+1<=(v_W1.alloc (.cells #[.int .i64 0, .int .i64 0, .slice none 0 0] 338)).heap.size∧(v_W1.alloc (.cells #[.int .i64 0, .int .i64 0, .slice none 0 0] 338)).heap.size<=v_W1.heap.size+1:=by simp
      obtain⟨v_W2,hw⟩:∃v_W2,v_W2=v_W1.alloc (.cells #[.int .i64 0, .int .i64 0, .slice none 0 0] 338):=⟨_,rfl⟩;rw [<-hw] at hbN hx hz_20 ⊢;clear hw;rw [<-hg] at hx ⊢;have hHeld:=hHeld.trans (hbN.mono hHeld.size);have hfN:Fr (λ _=>False) v_W1 v_W2:=Fr.of_below hbN;clear hbN;have blxs_L2:=qH (hfN.row_some blxs_L1.out id);clear blxs_L1;have blbox_L2:=qH hx;clear hx;have hz_23:g_box<=v_W1.heap.size∧v_W1.heap.size<=g_box:=by omega
      clear hg;refine hK.out _ _ hHeld λ _=> ?_
      clear hK K hfN
      try simp only [Act.put,sA,sB,sC]
     rotate_left
    |
     refine wpAnyH_ready (rs:= [6,17]) (by kernel_rfl) (by simp) ?_;refine AllReadyH.cons (o:=⟨some 44,_,_,_,_,_⟩) rfl (λ K hK=> ?_) (AllReadyH.cons (o:=⟨some 6,_,_,_,_,_⟩) rfl (λ K hK=> ?_) (AllReadyH.nil))
     focus
      go_simp;obtain⟨g_xs,hg⟩:∃g,g=v_W1.heap.size:=⟨_,rfl⟩;have hbN:Below v_W1.heap.size v_W1 (v_W1.alloc (.cells #[.int .u8 (IntKind.u8.wrap (I:Int))] 5)):=(Below.refl _ _).alloc (Nat.le_refl _) _;have hx:=heap_alloc_new v_W1 (.cells #[.int .u8 (IntKind.u8.wrap (I:Int))] 5);have hz_25:v_W1.heap.size+1<=(v_W1.alloc (.cells #[.int .u8 (IntKind.u8.wrap (I:Int))] 5)).heap.size∧(v_W1.alloc (.cells #[.int .u8 (IntKind.u8.wrap (I:Int))] 5)).heap.size<=v_W1.heap.size+1:=by simp
      obtain⟨v_W2,hw⟩:∃v_W2,v_W2=v_W1.alloc (.cells #[.int .u8 (IntKind.u8.wrap (I:Int))] 5):=⟨_,rfl⟩;rw [<-hw] at hbN hx hz_25 ⊢;clear hw;rw [<-hg] at hx ⊢;have hHeld:=hHeld.trans (hbN.mono hHeld.size);have hfN:Fr (λ _=>False) v_W1 v_W2:=Fr.of_below hbN;clear hbN;have ys_L2:=qH (ys_L1.out.fr hfN (λ _ _ _ _ h=>h));clear ys_L1;have blxs_L2:=qH hx;clear hx;have hz_28:g_xs<=v_W1.heap.size∧v_W1.heap.size<=g_xs:=by omega
      clear hg;refine hK.out _ _ hHeld λ _=> ?_
      clear hK K hfN
      try simp only [Act.put,sA,sB,sC]
     rotate_left
     focus
      go_simp;obtain⟨g_box,hg⟩:∃g,g=v_W1.heap.size:=⟨_,rfl⟩;have hbN:Below v_W1.heap.size v_W1 (v_W1.alloc (.cells #[.int .i64 0, .int .i64 0, .slice none 0 0] 338)):=(Below.refl _ _).alloc (Nat.le_refl _) _;have hx:=heap_alloc_new v_W1 (.cells #[.int .i64 0, .int .i64 0, .slice none 0 0] 338);have hz_30:v_W1.heap.size+1<=(v_W1.alloc (.cells #[.int .i64 0, .int .i64 0, .slice none 0 0] 338)).heap.size∧(v_W1.alloc (.cells #[.int .i64 0, .int .i64 0, .slice none 0 0] 338)).heap.size<=v_W1.heap.size+1:=by simp
      obtain⟨v_W2,hw⟩:∃v_W2,v_W2=v_W1.alloc (.cells #[.int .i64 0, .int .i64 0, .slice none 0 0] 338):=⟨_,rfl⟩;rw [<-hw] at hbN hx hz_30 ⊢;clear hw;rw [<-hg] at hx ⊢;have hHeld:=hHeld.trans (hbN.mono hHeld.size);have hfN:Fr (λ _=>False) v_W1 v_W2:=Fr.of_below hbN;clear hbN;have ys_L2:=qH (ys_L1.out.fr hfN (λ _ _ _ _ h=>h));clear ys_L1;have blbox_L2:=qH hx;clear hx;have hz_33:g_box<=v_W1.heap.size∧v_W1.heap.size<=g_box:=by omega
      clear hg;refine hK.out _ _ hHeld λ _=> ?_
      clear hK K hfN
      try simp only [Act.put,sA,sB,sC]
     rotate_left
    |
     refine wpAnyH_ready (rs:= [6,12]) (by kernel_rfl) (by simp) ?_;refine AllReadyH.cons (o:=⟨some 44,_,_,_,_,_⟩) rfl (λ K hK=> ?_) (AllReadyH.cons (o:=⟨some 50,_,_,_,_,_⟩) rfl (λ K hK=> ?_) (AllReadyH.nil))
     focus
      go_simp;obtain⟨g_xs,hg⟩:∃g,g=v_W1.heap.size:=⟨_,rfl⟩;have hbN:Below v_W1.heap.size v_W1 (v_W1.alloc (.cells #[.int .u8 (IntKind.u8.wrap (I:Int))] 5)):=(Below.refl _ _).alloc (Nat.le_refl _) _;have hx:=heap_alloc_new v_W1 (.cells #[.int .u8 (IntKind.u8.wrap (I:Int))] 5);have hz_35:v_W1.heap.size+1<=(v_W1.alloc (.cells #[.int .u8 (IntKind.u8.wrap (I:Int))] 5)).heap.size∧(v_W1.alloc (.cells #[.int .u8 (IntKind.u8.wrap (I:Int))] 5)).heap.size<=v_W1.heap.size+1:=by simp
      obtain⟨v_W2,hw⟩:∃v_W2,v_W2=v_W1.alloc (.cells #[.int .u8 (IntKind.u8.wrap (I:Int))] 5):=⟨_,rfl⟩;rw [<-hw] at hbN hx hz_35 ⊢;clear hw;rw [<-hg] at hx ⊢;have hHeld:=hHeld.trans (hbN.mono hHeld.size);have hfN:Fr (λ _=>False) v_W1 v_W2:=Fr.of_below hbN;clear hbN;have blbox_L2:=qH (hfN.row_some blbox_L1.out id);clear blbox_L1;have blxs_L2:=qH hx;clear hx;have hz_38:g_xs<=v_W1.heap.size∧v_W1.heap.size<=g_xs:=by omega
      clear hg;refine hK.out _ _ hHeld λ _=> ?_
      clear hK K hfN
      try simp only [Act.put,sA,sB,sC]
     rotate_left
     focus
      go_simp;have hh:=jdL k (by omega) v_W1;refine hh.mono ?_;clear hh;rintro e v_W2 ⟨A2,n2,c2,rfl,hs2,hbN,hm2⟩;obtain rfl:n2=k:=by
       have:=hs2.len;rw [jaa,jbO,Nat.mul_one] at this;exact this.symm
      have hA2:∀b o,A2=some ⟨b,o,none⟩->w2.heap.size<=b:=λ b o e=>by
       obtain⟨g,cur,e',hg,_⟩:=hm2 H2.out.k1;rw [e] at e';injection e' with e';injection e' with e' _
       have:=hHeld.size;omega
      have ys_L2:=qH hs2;clear hs2 hm2;have hfN:Fr (λ _=>False) v_W1 v_W2:=Fr.of_below hbN;have hH2:=hHeld.trans (hbN.mono hHeld.size);clear hbN;go_wp2_with fail;have hHeld:=hH2;clear hH2;have hz_42:=hfN.size;have blbox_L2:=qH (hfN.row_some blbox_L1.out id);clear blbox_L1;refine hK.out _ _ hHeld λ _=> ?_
      clear hK K hfN
      try simp only [Act.put,sA,sB,sC]
     rotate_left
   all_goals first
    |
     refine wpAnyH_ready (rs:= [13,17]) (by kernel_rfl) (by simp) ?_;refine AllReadyH.cons (o:=⟨some 51,_,_,_,_,_⟩) rfl (λ K hK=> ?_) (AllReadyH.cons (o:=⟨some 6,_,_,_,_,_⟩) rfl (λ K hK=> ?_) (AllReadyH.nil))
     focus
      go_simp;have hh:=jfq C n2 m F T I g_xs A2 c2 hlt' hI v_W2 (H2.out.later hHeld) blxs_L2.out (by omega) ys_L2.out (λ b o e=>by have:=hA2 b o e;omega);refine hh.mono ?_;clear hh;rintro e v_W3 ⟨A6,n6,c6,rfl,hs6,hA6,hbN⟩;have res_L3:=qH hs6;clear hs6;have hfN:Fr (λ _=>False) v_W2 v_W3:=Fr.of_below hbN;have hH2:=hHeld.trans (hbN.mono hHeld.size);clear hbN;go_wp2_with fail;have hHeld:=hH2;clear hH2;have hz_47:=hfN.size;have blxs_L3:=qH (hfN.row_some blxs_L2.out id);clear blxs_L2;have ys_L3:=qH (ys_L2.out.fr hfN (λ _ _ _ _ h=>h));clear ys_L2;refine hK.out _ _ hHeld λ _=> ?_
      clear hK K hfN
      try simp only [Act.put,sA,sB,sC]
      refine tA 14 (some 37) rfl hHeld ?_;refine tA 15 (some 52) rfl hHeld ?_;refine tA 16 (some 53) rfl hHeld ?_
     rotate_left
     focus
      go_simp;obtain⟨g_box,hg⟩:∃g,g=v_W2.heap.size:=⟨_,rfl⟩;have hbN:Below v_W2.heap.size v_W2 (v_W2.alloc (.cells #[.int .i64 0, .int .i64 0, .slice none 0 0] 338)):=(Below.refl _ _).alloc (Nat.le_refl _) _;have hx:=heap_alloc_new v_W2 (.cells #[.int .i64 0, .int .i64 0, .slice none 0 0] 338);have hz_51:v_W2.heap.size+1<=(v_W2.alloc (.cells #[.int .i64 0, .int .i64 0, .slice none 0 0] 338)).heap.size∧(v_W2.alloc (.cells #[.int .i64 0, .int .i64 0, .slice none 0 0] 338)).heap.size<=v_W2.heap.size+1:=by simp
      obtain⟨v_W3,hw⟩:∃v_W3,v_W3=v_W2.alloc (.cells #[.int .i64 0, .int .i64 0, .slice none 0 0] 338):=⟨_,rfl⟩;rw [<-hw] at hbN hx hz_51 ⊢;clear hw;rw [<-hg] at hx ⊢;have hHeld:=hHeld.trans (hbN.mono hHeld.size);have hfN:Fr (λ _=>False) v_W2 v_W3:=Fr.of_below hbN;clear hbN;have blxs_L3:=qH (hfN.row_some blxs_L2.out id);clear blxs_L2;have ys_L3:=qH (ys_L2.out.fr hfN (λ _ _ _ _ h=>h));clear ys_L2;have blbox_L3:=qH hx;clear hx;have hz_55:g_box<=v_W2.heap.size∧v_W2.heap.size<=g_box:=by omega
      clear hg;refine hK.out _ _ hHeld λ _=> ?_
      clear hK K hfN
      try simp only [Act.put,sA,sB,sC]
     rotate_left
    |
     refine rW 12 (some 50) rfl λ K hK=> ?_
     go_simp;have hh:=jdL k (by omega) v_W2;refine hh.mono ?_;clear hh;rintro e v_W3 ⟨A2,n2,c2,rfl,hs2,hbN,hm2⟩;obtain rfl:n2=k:=by
      have:=hs2.len;rw [jaa,jbO,Nat.mul_one] at this;exact this.symm
     have hA2:∀b o,A2=some ⟨b,o,none⟩->w2.heap.size<=b:=λ b o e=>by
      obtain⟨g,cur,e',hg,_⟩:=hm2 H2.out.k1;rw [e] at e';injection e' with e';injection e' with e' _
      have:=hHeld.size;omega
     have ys_L3:=qH hs2;clear hs2 hm2;have hfN:Fr (λ _=>False) v_W2 v_W3:=Fr.of_below hbN;have hH2:=hHeld.trans (hbN.mono hHeld.size);clear hbN;go_wp2_with fail;have hHeld:=hH2;clear hH2;have hz_59:=hfN.size;have blxs_L3:=qH (hfN.row_some blxs_L2.out id);clear blxs_L2;have blbox_L3:=qH (hfN.row_some blbox_L2.out id);clear blbox_L2;refine hK.out _ _ hHeld λ _=> ?_
     clear hK K hfN
     try simp only [Act.put,sA,sB,sC]
    |
     refine rW 6 (some 44) rfl λ K hK=> ?_
     go_simp;obtain⟨g_xs,hg⟩:∃g,g=v_W2.heap.size:=⟨_,rfl⟩;have hbN:Below v_W2.heap.size v_W2 (v_W2.alloc (.cells #[.int .u8 (IntKind.u8.wrap (I:Int))] 5)):=(Below.refl _ _).alloc (Nat.le_refl _) _;have hx:=heap_alloc_new v_W2 (.cells #[.int .u8 (IntKind.u8.wrap (I:Int))] 5);have hz_63:v_W2.heap.size+1<=(v_W2.alloc (.cells #[.int .u8 (IntKind.u8.wrap (I:Int))] 5)).heap.size∧(v_W2.alloc (.cells #[.int .u8 (IntKind.u8.wrap (I:Int))] 5)).heap.size<=v_W2.heap.size+1:=by simp
     obtain⟨v_W3,hw⟩:∃v_W3,v_W3=v_W2.alloc (.cells #[.int .u8 (IntKind.u8.wrap (I:Int))] 5):=⟨_,rfl⟩;rw [<-hw] at hbN hx hz_63 ⊢;clear hw;rw [<-hg] at hx ⊢;have hHeld:=hHeld.trans (hbN.mono hHeld.size);have hfN:Fr (λ _=>False) v_W2 v_W3:=Fr.of_below hbN;clear hbN;have ys_L3:=qH (ys_L2.out.fr hfN (λ _ _ _ _ h=>h));clear ys_L2;have blbox_L3:=qH (hfN.row_some blbox_L2.out id);clear blbox_L2;have blxs_L3:=qH hx;clear hx;have hz_67:g_xs<=v_W2.heap.size∧v_W2.heap.size<=g_xs:=by omega
     clear hg;refine hK.out _ _ hHeld λ _=> ?_
     clear hK K hfN
     try simp only [Act.put,sA,sB,sC]
   all_goals first
    |
     refine rW 17 (some 6) rfl λ K hK=> ?_
     go_simp;obtain⟨g_box,hg⟩:∃g,g=v_W3.heap.size:=⟨_,rfl⟩;have hbN:Below v_W3.heap.size v_W3 (v_W3.alloc (.cells #[.int .i64 0, .int .i64 0, .slice none 0 0] 338)):=(Below.refl _ _).alloc (Nat.le_refl _) _;have hx:=heap_alloc_new v_W3 (.cells #[.int .i64 0, .int .i64 0, .slice none 0 0] 338);have hz_69:v_W3.heap.size+1<=(v_W3.alloc (.cells #[.int .i64 0, .int .i64 0, .slice none 0 0] 338)).heap.size∧(v_W3.alloc (.cells #[.int .i64 0, .int .i64 0, .slice none 0 0] 338)).heap.size<=v_W3.heap.size+1:=by simp
     obtain⟨v_W4,hw⟩:∃v_W4,v_W4=v_W3.alloc (.cells #[.int .i64 0, .int .i64 0, .slice none 0 0] 338):=⟨_,rfl⟩;rw [<-hw] at hbN hx hz_69 ⊢;clear hw;rw [<-hg] at hx ⊢;have hHeld:=hHeld.trans (hbN.mono hHeld.size);have hfN:Fr (λ _=>False) v_W3 v_W4:=Fr.of_below hbN;clear hbN;have blxs_L4:=qH (hfN.row_some blxs_L3.out id);clear blxs_L3;have ys_L4:=qH (ys_L3.out.fr hfN (λ _ _ _ _ h=>h));clear ys_L3;have res_L4:=qH (res_L3.out.fr hfN (λ _ _ _ _ h=>h));clear res_L3;have blbox_L4:=qH hx;clear hx;have hz_74:g_box<=v_W3.heap.size∧v_W3.heap.size<=g_box:=by omega
     clear hg;refine hK.out _ _ hHeld λ _=> ?_
     clear hK K hfN
     try simp only [Act.put,sA,sB,sC]
    |
     refine rW 13 (some 51) rfl λ K hK=> ?_
     go_simp;have hh:=jfq C n2 m F T I g_xs A2 c2 hlt' hI v_W3 (H2.out.later hHeld) blxs_L3.out (by omega) ys_L3.out (λ b o e=>by have:=hA2 b o e;omega);refine hh.mono ?_;clear hh;rintro e v_W4 ⟨A6,n6,c6,rfl,hs6,hA6,hbN⟩;have res_L4:=qH hs6;clear hs6;have hfN:Fr (λ _=>False) v_W3 v_W4:=Fr.of_below hbN;have hH2:=hHeld.trans (hbN.mono hHeld.size);clear hbN;go_wp2_with fail;have hHeld:=hH2;clear hH2;have hz_78:=hfN.size;have blxs_L4:=qH (hfN.row_some blxs_L3.out id);clear blxs_L3;have ys_L4:=qH (ys_L3.out.fr hfN (λ _ _ _ _ h=>h));clear ys_L3;have blbox_L4:=qH (hfN.row_some blbox_L3.out id);clear blbox_L3;refine hK.out _ _ hHeld λ _=> ?_
     clear hK K hfN
     try simp only [Act.put,sA,sB,sC]
     refine tA 14 (some 37) rfl hHeld ?_;refine tA 15 (some 52) rfl hHeld ?_;refine tA 16 (some 53) rfl hHeld ?_
   all_goals
    refine rW 18 none rfl λ K hK=> ?_
    have q0:=jfh blbox_L4.out;have q1:=jfi blbox_L4.out;have q2:=jfj blbox_L4.out;have u0:=jaq blbox_L4.out 0;have u1:=jaq blbox_L4.out 1;have u2:=jaq blbox_L4.out 2;go_simp;have hx:=jcz (r:=1) (c:=(n2:Int)) (A:=A6) (n:=n6) (cp:=c6) blbox_L4.out;have hfN:=jcV v_W4 (g_box) 1 (n2:Int) A6 n6 c6;have hHeld:=hHeld.trans (hfN.below hHeld.size (λ k hk=>by have hk:k=g_box:=hk;omega) |>λ q=>q);have hz_83:v_W4.heap.size<=(((v_W4.setCell ⟨g_box,0,none⟩ (.int .i64 1)).setCell ⟨g_box,1,none⟩ (.int .i64 (n2:Int))).setCell ⟨g_box,2,none⟩ (.slice A6 n6 c6)).heap.size∧(((v_W4.setCell ⟨g_box,0,none⟩ (.int .i64 1)).setCell ⟨g_box,1,none⟩ (.int .i64 (n2:Int))).setCell ⟨g_box,2,none⟩ (.slice A6 n6 c6)).heap.size<=v_W4.heap.size:=by simp
    obtain⟨v_W5,hw⟩:∃v_W5,v_W5=(((v_W4.setCell ⟨g_box,0,none⟩ (.int .i64 1)).setCell ⟨g_box,1,none⟩ (.int .i64 (n2:Int))).setCell ⟨g_box,2,none⟩ (.slice A6 n6 c6)):=⟨_,rfl⟩;rw [<-hw] at hHeld hx hfN hz_83 ⊢;clear hw q0 q1 q2 u0 u1 u2;have blxs_L5:=qH (hfN.row_some blxs_L4.out (λ h=>by have h:g_xs=g_box:=h;omega));clear blxs_L4;have ys_L5:=qH (trivial);clear ys_L4;have res_L5:=qH (res_L4.out.fr hfN (λ b o hn hA hk=>by have hk:b=g_box:=hk;have:=hA6 b o hA;omega));clear res_L4;clear blbox_L4;have blbox_L5:=qH hx;clear hx;refine hK.out _ _ hHeld λ _=> ?_
    clear hK K hfN
    try simp only [Act.put,sA,sB,sC]
    refine tA 19 (some 7) rfl hHeld ?_
   all_goals
    refine tD ?_;have q2:=jci blbox_L5.out;go_wp2_with fail;go_ret;exact⟨A6,n6,c6,rfl,res_L5.out,Hb.out.trans (hHeld.mono hsz2)⟩
 ·have hg:=λ u=>jkc k m i h3 u
  rw [jfa hin] at hg;rw [rowI,if_neg hin];have Hin:=qH hin;clear hin;go_enter Tryz.func201,Tryz.ntmps201;go_wp2_with fail;refine hm.mono ?_;clear hm;rintro e w1 ⟨rfl,j,hw1⟩;have hb1:Below w.heap.size w w1:=by rw [hw1];exact below_drewN (Below.refl _ _) j
  clear hw1;have H1:=qH (H.out.later hb1);have c0:=H1.out.c0;have c1:=H1.out.c1;go_wp2_with fail;refine(hg _).mono ?_;clear hg;rintro e w2 ⟨rfl,hb2⟩;have hb:=hb1.trans (hb2.mono hb1.size);clear c0 c1 hb1 hb2;go_wp2_with fail;go_ret;exact⟨none,0,0,rfl,Sl.nil _ 1 0 (by decide),hb⟩
end
end Go.Proofs.YtmhejbihdghhaaaGreatDoor

/-
  Where a drive lies in memory (layer 9): its box, its sectors, the writes that wait, the map of the last ones ('Rp9'); contracts of package drive's calls that on
-/
import Derived.Test.YtmhejbihdghhaaaGreatDoorQcab
import Derived.Deep.WholeRow
import Derived.Great.BuildSlice
import Derived.Deep.LoopGhost
import Derived.Shelf.Abstract
import Derived.Shelf.SlMaps.Clone
import Derived.Lib.SliceRun
namespace Go.Proofs.YtmhejbihdghhaaaGreatDoor
set_option linter.unusedVariables false
open Go.RowKit Go.Proofs Go.Maps
open Go.RowKit Go.Proofs Go.Maps
open Go.RowKit Go.Proofs Go.Maps
open Go.RowKit Go.Proofs Go.Maps
open Go.RowKit Go.Proofs Go.Maps
open Go.RowKit Go.Proofs Go.Maps
open Go.RowKit Go.Proofs Go.Maps
open Go.RowKit Go.Proofs Go.Maps
open Go.RowKit Go.Proofs Go.Maps
open Go.RowKit Go.Proofs Go.Maps
open Go.RowKit Go.Proofs Go.Maps
set_option maxRecDepth 100000
set_option maxHeartbeats 8000000
section
def jcC:List (Nat × List UInt8)->Nat->Option Nat
  | [],_=>none
  |p::l,i=>match jcC l i with
    |some j=>some (j+1)
    |none=>if p.1=i then some 0 else none
theorem jk8 (l:List (Nat × List UInt8))(p:Nat × List UInt8)(i:Nat):jcC (l ++ [p]) i=if p.1=i then some l.length else jcC l i:=by
  induction l with
  |nil=>rfl
  |cons q l ih=>
    show (match jcC (l ++ [p]) i with|some j=>some (j+1)|none=>if q.1=i then some 0 else none)=if p.1=i then some (l.length+1) else(match jcC l i with|some j=>some (j+1)|none=>if q.1=i then some 0 else none)
    rw [ih]
    by_cases he:p.1=i
    . rw [if_pos he,if_pos he]
    . rw [if_neg he,if_neg he]
theorem lastI_some:∀{l:List (Nat × List UInt8)} {i j:Nat},jcC l i=some j->∃b,l[j]? =some (i,b)∧Dv.lastW l i=some b
  |p::l,i,j,h=>by
    have h:(match jcC l i with|some j=>some (j+1)|none=>if p.1=i then some 0 else none)=some j:=h
    cases hq:jcC l i with
    |some k=>
      rw [hq] at h;injection h with h
      subst h;obtain⟨b,h1,h2⟩:=lastI_some hq;refine⟨b,by simpa using h1, ?_⟩
      show (match Dv.lastW l i with|some b=>some b|none=>if p.1=i then some p.2 else none)=_
      rw [h2]
    |none=>
      rw [hq] at h;have h:(if p.1=i then some 0 else none)=some j:=h
      by_cases he:p.1=i
      . rw [if_pos he] at h
        injection h with h
        subst h;refine⟨p.2,by rw [<-he];rfl, ?_⟩
        show (match Dv.lastW l i with|some b=>some b|none=>if p.1=i then some p.2 else none)=_
        rw [lastI_none hq,if_pos he]
      . rw [if_neg he] at h
        cases h
 where
  lastI_none:∀{l:List (Nat × List UInt8)} {i:Nat},jcC l i=none->Dv.lastW l i=none
  | [],_,_=>rfl
  |p::l,i,h=>by
    have h:(match jcC l i with|some j=>some (j+1)|none=>if p.1=i then some 0 else none)=none:=h
    show (match Dv.lastW l i with|some b=>some b|none=>if p.1=i then some p.2 else none)=none
    cases hq:jcC l i with
    |some k=>rw [hq] at h;cases h
    |none=>
      rw [hq] at h;rw [lastI_none hq]
      by_cases he:p.1=i
      . have h:(if p.1=i then some 0 else none)=(none:Option Nat):=h
        rw [if_pos he] at h;cases h
      . rw [if_neg he]
theorem lastI_none {l:List (Nat × List UInt8)}{i:Nat}(h:jcC l i=none):Dv.lastW l i=none:=lastI_some.lastI_none h
structure Lst (w:World)(M:Nat)(l:List (Nat × List UInt8)):Prop where
  ex:∃D:DataW Unit,w.ownsMap Tryz.prog 3 (plainElem Tryz.prog 3) M l.length D∧IsMap D∧∀(i:Nat) (zd:DataW Unit),D.atKey (.int .i64 (i:Int)) zd=(match jcC l i with|some j=> .lit (.int .i64 (j:Int))|none=>zd)
theorem Lst.lt {w:World}{M:Nat}{l:List (Nat × List UInt8)}(h:Lst w M l):M<w.heap.size:=by
  obtain⟨D,h1,_⟩:=h.ex;exact h1.lt
theorem Lst.fr {w w':World}{M:Nat}{l:List (Nat × List UInt8)}{S:Nat->Prop}(h:Lst w M l)(hf:Fr S w w')(hb:¬S M):Lst w' M l:=by
  obtain⟨D,h1,h2,h3⟩:=h.ex;exact⟨D,jkM h1 hf hb,h2,h3⟩
theorem Lst.look {w:World}{M:Nat}{l:List (Nat × List UInt8)}(h:Lst w M l)(i:Nat)(hi:i<9223372036854775808):
    (Instr.lookup 202 (.map (some M)) (.int .i64 (i:Int)) true).run Tryz.prog w= .ok (match jcC l i with|some j=> .tuple #[.int .i64 (j:Int), .bool true]|none=> .tuple #[.int .i64 0, .bool false]) w:=by
  obtain⟨D,⟨es,clock,hb,F,hs,rfl⟩,h2,h3⟩:=h.ex;have hkey:keyOf Tryz.prog 3 (.int .i64 (i:Int))=some (.int .i64 (i:Int)):=keyOf_int_mk Tryz.underlying3 (jmf (by omega))
  rcases Maps.fit_look true jj0 Tryz.underlying202 (zeroI w) hb F hkey with ⟨hrun,_,hat⟩|⟨e0,y,_,_,hrun,hRv,hat,_⟩
  . have:=(h3 i (.lit (.int .i64 0))).symm.trans (hat _)
    have h1:=(h3 i (.lit (.int .i64 1))).symm.trans (hat _)
    cases hq:jcC l i with
    |none=>exact hrun
    |some j=>
      rw [hq] at this h1;have a:=je8 this;have b:=je8 h1;omega
  . obtain⟨a,ha,hy,_⟩:=plainElem_int_inv Tryz.underlying3 hRv
    have h0:=(h3 i (.lit (.int .i64 0))).symm.trans (hat _);have h1:=(h3 i (.lit (.int .i64 1))).symm.trans (hat _);rw [hy] at h0 h1
    cases hq:jcC l i with
    |none=>
      rw [hq] at h0 h1;have a:=je8 h0;have b:=je8 h1;omega
    |some j=>
      rw [hq] at h0;have:=je8 h0;subst this;rw [ha] at hrun;exact hrun
theorem Lst.step {D:DataW Unit}{l:List (Nat × List UInt8)}(h2:IsMap D)(h3:∀(i:Nat) (zd:DataW Unit),D.atKey (.int .i64 (i:Int)) zd=(match jcC l i with|some j=> .lit (.int .i64 (j:Int))|none=>zd))(p:Nat × List UInt8):
    IsMap (D.put (.int .i64 (p.1:Int)) (.lit (.int .i64 (l.length:Int))))∧∀(i:Nat) (zd:DataW Unit),(D.put (.int .i64 (p.1:Int)) (.lit (.int .i64 (l.length:Int)))).atKey (.int .i64 (i:Int)) zd=(match jcC (l ++ [p]) i with|some j=> .lit (.int .i64 (j:Int))|none=>zd):=by
  refine⟨h2.put _ _,λ i zd=> ?_⟩;rw [jk8]
  by_cases he:p.1=i
  . rw [if_pos he,<-he,atKey_put_same (k:=Lit.int .i64 _) h2 (by trivial)]
  . rw [if_neg he,atKey_put_other (by intro e;injection e with _ e;exact he (by omega)),h3]
structure Rq (w:World)(D:Nat)(x:Dv)(Bd cd:Nat)(Ac:Option Addr)(cc M:Nat)(ds:List (List UInt8 × Bool)):Prop where
  box:w.heap[D]? =some (.cells #[.slice (some ⟨Bd,0,none⟩) x.n cd, .slice Ac x.wait.length cc, .map (some M), .bool x.gone] 204 (0,0))
  disk:Rw w Bd 209 65 x.n cd (ds.flatMap sec9)
  cch:(x.wait= []∧Ac=none∧cc=0)∨∃Bc,Ac=some ⟨Bc,0,none⟩∧Rw w Bc 230 65 x.wait.length cc (x.wait.flatMap wrc9)
  lst:Lst w M x.wait
  len:ds.length=x.n
  n1:1<=x.n
  n2:x.n<=600
  ok:x.Ok
  has:x.gone=false->∀i,i<x.n->ds[i]? =some (x.st.getD i [],x.rot.getD i false)
def Blk9 (D Bd M:Nat)(Ac:Option Addr):Nat->Prop:=λ b=>b=D∨b=Bd∨b=M∨∃o,Ac=some ⟨b,o,none⟩
def Rp9 (w:World)(S:Nat->Prop)(D:Nat)(x:Dv):Prop:=∃Bd cd Ac cc M ds,Rq w D x Bd cd Ac cc M ds∧∀b,S b↔Blk9 D Bd M Ac b
section
variable {w w':World}{D Bd cd cc M:Nat}{x:Dv}{Ac:Option Addr}{ds:List (List UInt8 × Bool)}
theorem Rq.c0 (h:Rq w D x Bd cd Ac cc M ds):w.cell? ⟨D,0,none⟩=some (.slice (some ⟨Bd,0,none⟩) x.n cd):=by rw [cell_of_row _ _ _ _ _ _ h.box];rfl
theorem Rq.c1 (h:Rq w D x Bd cd Ac cc M ds):w.cell? ⟨D,1,none⟩=some (.slice Ac x.wait.length cc):=by rw [cell_of_row _ _ _ _ _ _ h.box];rfl
theorem Rq.c2 (h:Rq w D x Bd cd Ac cc M ds):w.cell? ⟨D,2,none⟩=some (.map (some M)):=by rw [cell_of_row _ _ _ _ _ _ h.box];rfl
theorem Rq.c3 (h:Rq w D x Bd cd Ac cc M ds):w.cell? ⟨D,3,none⟩=some (.bool x.gone):=by rw [cell_of_row _ _ _ _ _ _ h.box];rfl
theorem Rq.free (h:Rq w D x Bd cd Ac cc M ds)(j:Nat):w.frozen? ⟨D,j,none⟩=false:=frozen_of_row _ _ _ _ _ h.box
theorem Rq.fr {T:Nat->Prop}(h:Rq w D x Bd cd Ac cc M ds)(hf:Fr T w w')(hT:∀b,Blk9 D Bd M Ac b->¬T b):Rq w' D x Bd cd Ac cc M ds:=by
  refine⟨hf.row_some h.box (hT D (.inl rfl)),h.disk.fr hf (hT Bd (.inr (.inl rfl))), ?_,h.lst.fr hf (hT M (.inr (.inr (.inl rfl)))),h.len,h.n1,h.n2,h.ok,h.has⟩
  rcases h.cch with q|⟨Bc,hA,hc⟩
  . exact .inl q
  . exact .inr ⟨Bc,hA,hc.fr hf (hT Bc (.inr (.inr (.inr ⟨0,hA⟩))))⟩
theorem Rq.later (h:Rq w D x Bd cd Ac cc M ds)(hb:Below w.heap.size w w'):Rq w' D x Bd cd Ac cc M ds:=h.fr (Fr.of_below hb:Fr (λ _=>False) _ _) (λ _ _ h=>h)
theorem Rq.lt (h:Rq w D x Bd cd Ac cc M ds){b:Nat}(hb:Blk9 D Bd M Ac b):b<w.heap.size:=by
  rcases hb with rfl|rfl|rfl|⟨o,ho⟩
  . exact block_lt h.box
  . exact h.disk.lt
  . exact h.lst.lt
  . rcases h.cch with ⟨_,hA,_⟩|⟨Bc,hA,hc⟩
    . rw [hA] at ho;cases ho
    . rw [hA] at ho
      injection ho with ho
      injection ho with ho _
      rw [<-ho];exact hc.lt
theorem Rq.sect (h:Rq w D x Bd cd Ac cc M ds)(hg:x.gone=false){i:Nat}(hi:i<x.n):ds[i]? =some (x.st.getD i [],x.rot.getD i false)∧(x.st.getD i []).length=64:=⟨h.has hg i hi,(h.ok.live hg).2 i hi⟩
theorem Rq.ne1 (h:Rq w D x Bd cd Ac cc M ds):D≠Bd:=by
  rintro rfl;obtain⟨cur,h1,_⟩:=h.disk.ex;rw [h.box] at h1;injection h1 with h1
  injection h1 with _ h1
  exact absurd h1 (by decide)
theorem jgR (h:Lst w M x.wait):∃es clock,w.heap[M]? =some (.map es clock):=by
  obtain⟨D,⟨es,clock,hb,_⟩,_⟩:=h.ex;exact⟨es,clock,hb⟩
theorem Rq.ne2 (h:Rq w D x Bd cd Ac cc M ds):D≠M:=by
  rintro rfl;obtain⟨es,clock,h1⟩:=jgR h.lst;rw [h.box] at h1;injection h1 with h1
  cases h1
theorem Rq.ne3 (h:Rq w D x Bd cd Ac cc M ds):Bd≠M:=by
  rintro rfl;obtain⟨es,clock,h1⟩:=jgR h.lst;obtain⟨cur,h2,_⟩:=h.disk.ex;rw [h2] at h1;injection h1 with h1
  cases h1
theorem Rq.ne4 (h:Rq w D x Bd cd Ac cc M ds){b o:Nat}(hA:Ac=some ⟨b,o,none⟩):b≠D∧b≠Bd∧b≠M:=by
  rcases h.cch with ⟨_,hA',_⟩|⟨Bc,hA',hc⟩
  . rw [hA'] at hA;cases hA
  . rw [hA'] at hA
    injection hA with hA
    injection hA with hA _
    subst hA;obtain⟨cur,h1,_⟩:=hc.ex;refine⟨?_, ?_, ?_⟩<;>rintro rfl
    . rw [h.box] at h1
      injection h1 with h1
      injection h1 with _ h1
      exact absurd h1 (by decide)
    . obtain⟨cur',h2,_⟩:=h.disk.ex
      rw [h2] at h1;injection h1 with h1
      injection h1 with _ h1
      exact absurd h1 (by decide)
    . obtain⟨es,clock,h2⟩:=jgR h.lst
      rw [h2] at h1;injection h1 with h1
      cases h1
end
section
variable {w:World}{D Bd cd cc M:Nat}{x:Dv}{Ac:Option Addr}{ds:List (List UInt8 × Bool)}
theorem jcl (h:Rq w D x Bd cd Ac cc M ds):Calls Tryz.prog 107 #[.pointer (some ⟨D,0,none⟩)] w λ e w' =>e= .returned (.bool true)∧w' =w:=by
  have c0:=h.c0;have hn:(0:Int)<(x.n:Int):=by have:=h.n1;omega
  obtain⟨n,hxn⟩:∃n,n=x.n:=⟨_,rfl⟩;rw [<-hxn] at c0 hn;clear hxn;have hd:decide (0<n)=true:=decide_eq_true (by omega);go_enter Tryz.func107,Tryz.ntmps107;go_wp2_with fail;go_ret;exact⟨rfl,rfl⟩
theorem jeF (h:Rq w D x Bd cd Ac cc M ds):Calls Tryz.prog 104 #[.pointer (some ⟨D,0,none⟩)] w λ e w' =>e= .returned (.int .i64 (if x.gone=true then 90 else 0))∧w' =w:=by
  have hm:=jcl h;have c3:=h.c3
  cases hg:x.gone
  . rw [hg] at c3
    go_enter Tryz.func104,Tryz.ntmps104;go_wp2_with fail;refine hm.mono ?_;rintro e w1 ⟨rfl,rfl⟩;go_wp2_with fail;go_ret;exact⟨rfl,rfl⟩
  . rw [hg] at c3
    go_enter Tryz.func104,Tryz.ntmps104;go_wp2_with fail;refine hm.mono ?_;rintro e w1 ⟨rfl,rfl⟩;go_wp2_with fail;go_ret;exact⟨rfl,rfl⟩
def Dv.refX (x:Dv)(z:Int):Int:=if x.gone=true then 90 else if x.has z then 0 else 2
theorem jcD (z:Int)(h1: -9223372036854775808<=z)(h2:z<9223372036854775808)(h:Rq w D x Bd cd Ac cc M ds):Calls Tryz.prog 109 #[.pointer (some ⟨D,0,none⟩), .int .i64 z] w λ e w' =>e= .returned (.int .i64 (x.refX z))∧w' =w:=by
  have hm:=jeF h;have c0:=h.c0;unfold Dv.refX
  cases hg:x.gone
  . rw [hg,if_neg (by decide)] at hm
    rw [if_neg (by decide)]
    by_cases q1:z<0
    . rw [if_neg (λ hh=>by unfold Dv.has at hh;omega)]
      obtain⟨n,hxn⟩:∃n,n=x.n:=⟨_,rfl⟩;rw [<-hxn] at c0;clear hxn;go_enter Tryz.func109,Tryz.ntmps109;go_wp2_with fail;refine hm.mono ?_;rintro e w1 ⟨rfl,rfl⟩;go_wp2_with fail;go_ret;exact⟨rfl,rfl⟩
    . by_cases q2:(x.n:Int)<=z
      . rw [if_neg (λ hh=>by unfold Dv.has at hh;omega)]
        obtain⟨n,hxn⟩:∃n,n=x.n:=⟨_,rfl⟩;rw [<-hxn] at c0 q2;clear hxn;go_enter Tryz.func109,Tryz.ntmps109;go_wp2_with fail;refine hm.mono ?_;rintro e w1 ⟨rfl,rfl⟩;go_wp2_with fail;go_ret;exact⟨rfl,rfl⟩
      . rw [if_pos (by unfold Dv.has;omega)]
        obtain⟨n,hxn⟩:∃n,n=x.n:=⟨_,rfl⟩;rw [<-hxn] at c0 q2;clear hxn;go_enter Tryz.func109,Tryz.ntmps109;go_wp2_with fail;refine hm.mono ?_;rintro e w1 ⟨rfl,rfl⟩;go_wp2_with fail;go_ret;exact⟨rfl,rfl⟩
  . rw [hg,if_pos rfl] at hm
    rw [if_pos rfl];go_enter Tryz.func109,Tryz.ntmps109;go_wp2_with fail;refine hm.mono ?_;rintro e w1 ⟨rfl,rfl⟩;go_wp2_with fail;go_ret;exact⟨rfl,rfl⟩
theorem jgS (h:Rq w D x Bd cd Ac cc M ds):Calls Tryz.prog 129 #[.pointer (some ⟨D,0,none⟩)] w λ e w' =>e= .returned (.int .i64 (x.n:Int))∧w' =w:=by
  have hm:=jcl h;have c0:=h.c0;obtain⟨n,hxn⟩:∃n,n=x.n:=⟨_,rfl⟩;rw [<-hxn] at c0 ⊢;clear hxn;go_enter Tryz.func129,Tryz.ntmps129;go_wp2_with fail;refine hm.mono ?_;rintro e w1 ⟨rfl,rfl⟩;go_wp2_with fail;go_ret;exact⟨rfl,rfl⟩
end
end
section
def nul9:Array Value:=(List.replicate 64 (Value.int .u8 0)).toArray
theorem zero9 (w:World):(zeroValue 207).run Tryz.prog w= .ok (.agg nul9) w:=by kernel_rfl
theorem jqY (b:List UInt8):(Tryz.prog.info? 207).map (·.size)=some (cells (pad9 b)).toArray.size:=by
  rw [List.size_toArray,jaa,jaN]
  kernel_rfl
theorem jgp (b:List UInt8):(Tryz.prog.info? 207).map (·.size)=some (cells (pad9 b)).length:=by
  rw [jaa,jaN]
  kernel_rfl
theorem one9 (l:List UInt8):(cells (pad9 l)).toArray.all (·.oneCell')=true:=all_oneCell_toArray (cells_one _)
theorem old9 (l:List UInt8):nul9.size=(cells (pad9 l)).toArray.size:=(by simp [nul9]:nul9.size=64).trans (by simp [jaa,jaN])
theorem new9 (w:World){l:List UInt8}(h:l.length=64):NewB w (some ⟨w.heap.size,0,none⟩) 64 64 l (w.alloc (.cells (cells (pad9 l)).toArray 207)):=by
  have h1:=Sl.made w (cells (pad9 l)).toArray 207 1 64 (by rw [List.size_toArray,jaa,jaN]) (by decide);rw [List.toList_toArray,jel h] at h1;refine⟨by rw [jel h];exact h1,(Below.refl _ _).alloc (Nat.le_refl _) _,λ b o _ hA=> ?_⟩;injection hA with hA
  injection hA with hA _
  rw [<-hA];exact Nat.le_refl _
section
variable {w:World}{D Bd cd cc M:Nat}{x:Dv}{Ac:Option Addr}{ds:List (List UInt8 × Bool)}
theorem Dv.refX_yes {z:Int}(hg:x.gone=false)(hz:x.has z):x.refX z=0:=by rw [Dv.refX,if_neg (by rw [hg];decide),if_pos hz]
theorem Dv.refX_no {z:Int}(hx:¬(x.gone=false∧x.has z)):x.refX z≠0:=by
  rw [Dv.refX]
  split
  . decide
  . rename_i hg
    split
    . rename_i hh;exact absurd ⟨by simpa using hg,hh⟩ hx
    . decide
theorem Rq.wlen (h:Rq w D x Bd cd Ac cc M ds){i:Nat}{p:Nat × List UInt8}(hp:x.wait[i]? =some p):p.2.length=64:=(h.ok.wait p (List.mem_of_getElem? hp)).2
end
end
section
theorem same9 (l k:List UInt8):(cells (pad9 l)).toArray.size=(cells (pad9 k)).toArray.size:=by rw [List.size_toArray,List.size_toArray,jaa,jaa,jaN,jaN]
section
variable {w:World}{D Bd cd cc M:Nat}{x:Dv}{Ac:Option Addr}{ds:List (List UInt8 × Bool)}
theorem jk9 (z:Int)(h1: -9223372036854775808<=z)(h2:z<9223372036854775808)(hwl:x.wait.length<=100000)(h:Rq w D x Bd cd Ac cc M ds):Calls Tryz.prog 243 #[.pointer (some ⟨D,0,none⟩), .int .i64 z] w λ e w' =>∃A n c,e= .returned (.tuple #[.slice A n c, .int .i64 (x.readX z)])∧NewB w A n c (x.readL z) w':=by
  have hm:=jcD z h1 h2 h
  by_cases hx:x.gone=false∧x.has z
  . rw [Dv.refX_yes hx.1 hx.2] at hm
    rw [Dv.readX_yes hx.1 hx.2,Dv.readL_yes hx.1 hx.2];have hz:=hx.2;unfold Dv.has at hz;obtain⟨i,rfl⟩:∃i:Nat,z=(i:Int):=⟨z.toNat,by omega⟩;have hi:i<x.n:=by omega
    obtain⟨hd,hl⟩:=h.sect hx.1 hi;have hrg:=h.disk.sec_text hd;simp only at hrg;rw [Int.toNat_natCast,Dv.look];have c0:=h.c0;have hlk0:=h.lst.look i (by omega);have HRq:=qH h;obtain⟨b,hb⟩:∃b,b=x.st.getD i []:=⟨_,rfl⟩;rw [<-hb] at hrg hl ⊢;have hlt:(i:Int)<(x.n:Int):=by omega
    obtain⟨n,hxn⟩:∃n,n=x.n:=⟨_,rfl⟩;rw [<-hxn] at c0 hlt;have hzr:=zero9;have HL:=qH hl;have hB:=qH (show Below w.heap.size w (w.alloc (.cells (cells (pad9 b)).toArray 207)) from (Below.refl _ _).alloc (Nat.le_refl _) _);have c2:=(h.later hB.out).c2
    cases hq:jcC x.wait i with
    |none=>
      rw [hq] at hlk0;have hlk:(Instr.lookup 202 (.map (some M)) (.int .i64 (i:Int)) true).run Tryz.prog (w.alloc (.cells (cells (pad9 b)).toArray 207))= .ok (.tuple #[.int .i64 0, .bool false]) (w.alloc (.cells (cells (pad9 b)).toArray 207)):=by
        have:=(HRq.out.later hB.out).lst.look i (by omega)
        rwa [hq] at this
      rw [lastI_none hq]
      show Calls _ _ _ _ λ e w' =>∃A n c,e= .returned (.tuple #[.slice A n c, .int .i64 0])∧NewB w A n c b w'
      clear hxn hz hx hi hb hd hl hlk0 hwl h h1 h2 hq;go_enter Tryz.func243,Tryz.ntmps243;go_wp2_with fail;refine hm.mono ?_;rintro e w1 ⟨rfl,rfl⟩;go_wp2_with (first
        |(refine jkl (d:=23) ?_;refine wpList_load_mid (op:=⟨some 23,_,_,_,_,_⟩) rfl 207 (.tmp 22) rfl Bd (i*65) rfl (cells (pad9 b)) _ hrg Tryz.underlying207 rfl (jgp b) ?_)
        |(refine jek ?_;refine wpList_store_row (o:=⟨none,_,_,_,_,_⟩) rfl 207 (.tmp 7) (.tmp 23) rfl w1.heap.size _ rfl rfl 207 nul9 (heap_alloc_last _ _) (jqY b) (old9 b) (one9 b) ?_;rw [World.setRow_alloc_new]))
      go_ret2;exact⟨_,_,_,rfl,new9 _ HL.out⟩
    |some j=>
      rw [hq] at hlk0;obtain⟨b2,hj,hb2⟩:=lastI_some hq;rw [hb2]
      show Calls _ _ _ _ λ e w' =>∃A n c,e= .returned (.tuple #[.slice A n c, .int .i64 0])∧NewB w A n c b2 w'
      have hlk:(Instr.lookup 202 (.map (some M)) (.int .i64 (i:Int)) true).run Tryz.prog (w.alloc (.cells (cells (pad9 b)).toArray 207))= .ok (.tuple #[.int .i64 (j:Int), .bool true]) (w.alloc (.cells (cells (pad9 b)).toArray 207)):=by
        have:=(HRq.out.later hB.out).lst.look i (by omega)
        rwa [hq] at this
      have hjl:j<x.wait.length:=(List.getElem?_eq_some_iff.1 hj).1;have HL2:=qH (h.wlen hj);simp only at HL2
      rcases(h.later hB.out).cch with ⟨h0,_⟩|⟨Bc,rfl,hc⟩
      . rw [h0] at hjl;cases hjl
      have hrg2:=hc.wr_text hj;simp only at hrg2;have c1:=(h.later hB.out).c1;have c0':=h.c0;have hjt:(j:Int)<(x.wait.length:Int):=by omega
      obtain⟨m,hm'⟩:∃m,m=x.wait.length:=⟨_,rfl⟩;rw [<-hm'] at c1 hjt;clear hxn hz hx hi hb hd hl hlk0 hwl h h1 h2 hq hb2 hj hjl hc hm' c0';go_enter Tryz.func243,Tryz.ntmps243;go_wp2_with fail;refine hm.mono ?_;rintro e w1 ⟨rfl,rfl⟩;go_wp2_with (first
        |(refine jkl (d:=23) ?_;refine wpList_load_mid (op:=⟨some 23,_,_,_,_,_⟩) rfl 207 (.tmp 22) rfl Bd (i*65) rfl (cells (pad9 b)) _ hrg Tryz.underlying207 rfl (jgp b) ?_)
        |(refine jkl (d:=41) ?_;refine wpList_load_mid (op:=⟨some 41,_,_,_,_,_⟩) rfl 207 (.tmp 40) rfl Bc (j*65+1) rfl (cells (pad9 b2)) _ hrg2 Tryz.underlying207 rfl (jgp b2) ?_)
        |(refine jek ?_;refine wpList_store_row (o:=⟨none,_,_,_,_,_⟩) rfl 207 (.tmp 7) (.tmp 23) rfl w1.heap.size _ rfl rfl 207 nul9 (heap_alloc_last _ _) (jqY b) (old9 b) (one9 b) ?_;rw [World.setRow_alloc_new])
        |(refine jek ?_;refine wpList_store_row (o:=⟨none,_,_,_,_,_⟩) rfl 207 (.tmp 7) (.tmp 41) rfl w1.heap.size _ rfl rfl 207 (cells (pad9 b)).toArray (heap_alloc_last _ _) (jqY b2) (same9 b b2) (one9 b2) ?_;rw [World.setRow_alloc_new]))
      go_ret2;exact⟨_,_,_,rfl,new9 _ HL2.out⟩
  . have e1:=Dv.refX_no hx
    have e2:x.readL z= []:=by
      rw [Dv.readL]
      split
      . rfl
      . rename_i hg
        rw [if_neg (λ hh=>hx ⟨by simpa using hg,hh⟩)]
    have e3:x.readX z=x.refX z:=rfl;rw [e2,e3];obtain⟨r,hr⟩:∃r,r=x.refX z:=⟨_,rfl⟩;rw [<-hr] at e1 hm ⊢;clear hr e2 e3;go_enter Tryz.func243,Tryz.ntmps243;go_wp2_with fail;refine hm.mono ?_;rintro e w1 ⟨rfl,rfl⟩;go_wp2_with fail;go_ret2;exact⟨_,_,_,rfl,Sl.nil w1 1 0 (by decide),Below.refl _ _,λ _ _ h=>absurd h (by decide)⟩
end
end
section
theorem jhM {α:Type}{f:α->List Value}{k:Nat}(h:∀a,(f a).length=k)(hk:0<k)(a:α)(z:Array Value)(hz:z.toList=f a)(n:Nat):(madeCells z (n*k)).toList=(List.replicate n a).flatMap f:=by
  have hs:z.size=k:=by rw [<-Array.length_toList,hz,h]
  apply List.ext_getElem?
  intro t
  by_cases ht:t<n*k
  . have e:=flat_get (f:=f) h (l:=List.replicate n a) (i:=t / k) (a:=a) (by
      rw [List.getElem?_replicate,if_pos];exact(Nat.div_lt_iff_lt_mul hk).2 ht) (t % k) (Nat.mod_lt _ hk)
    rw [Nat.div_add_mod'] at e;rw [e,<-hz];have hm:t % k<z.size:=by rw [hs];exact Nat.mod_lt _ hk
    simp [madeCells,ht,hs];rw [getElem!_pos z (t % k) hm,Array.getElem?_eq_getElem hm]
  . rw [List.getElem?_eq_none (by rw [Array.length_toList,size_madeCells];omega),List.getElem?_eq_none (by rw [jeU h,List.length_replicate];omega)]
def nil9:List UInt8 × Bool:=(full 0,false)
theorem info9:(Tryz.prog.info? 209).map (λ i=>(i.zero,i.size,i.bytes))=some (some (.agg (sec9 nil9).toArray),65,65):=by kernel_rfl
theorem make9 (z:Int)(k:Nat)(hz:z=(k:Int))(hk:k<=600)(w:World):
    (Instr.makeSlice 200 (.int .i64 z) (.int .i64 z)).run Tryz.prog w= .ok (.slice (some ⟨w.heap.size,0,none⟩) k k) (w.alloc (.cells (madeCells (sec9 nil9).toArray (k*65)) 209)):=by
  obtain⟨i0,hi,hz0,hz1,hz2⟩:=info_parts info9;subst hz;have h:=run_make (P:=Tryz.prog) w 200 209 i0 (.agg (sec9 nil9).toArray) Tryz.underlying200 hi hz0 .i64 .i64 (k:Int) (k:Int) (by omega) (by omega) (by rw [hz2];omega) (by omega);rw [hz1,Int.toNat_natCast] at h;exact h
theorem disk9 (w:World)(k:Nat)(hk:k<=600):Rw (w.alloc (.cells (madeCells (sec9 nil9).toArray (k*65)) 209)) w.heap.size 209 65 k k ((List.replicate k nil9).flatMap sec9):=by
  rw [<-jhM jaY (by decide) nil9 (sec9 nil9).toArray List.toList_toArray k];exact Rw.new w _ _ 65 k (size_madeCells _ _) (by unfold maxLen;omega)
theorem Lst.made (w:World):Lst (w.alloc (.map #[] 0)) w.heap.size []:=⟨.map [],World.ownsMap_made _ _ _ _,⟨_,rfl⟩,λ i zd=>by
  show _=zd
  simp [WideAt.atKey_none]⟩
theorem box4 {w:World}{D:Nat}{T:TypeId}{a b c d:Value}(h:w.heap[D]? =some (.cells #[a,b,c,d] T (0,0)))(a' b' c' d':Value):
    ((((w.setCell ⟨D,0,none⟩ a').setCell ⟨D,1,none⟩ b').setCell ⟨D,2,none⟩ c').setCell ⟨D,3,none⟩ d').heap[D]? =some (.cells #[a',b',c',d'] T (0,0)):=
  heap_setCell_same _ D 3 _ _ d' (heap_setCell_same _ D 2 _ _ c' (heap_setCell_same _ D 1 _ _ b' (heap_setCell_same w D 0 _ _ a' h)))
def jqZ (n:Nat)(w:World)(e:Ending)(w':World):Prop:=∃D Bd cd M ds,e= .returned (.pointer (some ⟨D,0,none⟩))∧Rq w' D (Dv.new n) Bd cd none 0 M ds∧Below w.heap.size w w' ∧w.heap.size<=D∧w.heap.size<=Bd∧w.heap.size<=M
theorem Rq.made (w:World)(n:Nat)(h1:1<=n)(h2:n<=600):
    Rq (((w.alloc (.cells (madeCells (sec9 nil9).toArray (n*65)) 209)).alloc (.map #[] 0)).alloc (.cells #[.slice (some ⟨w.heap.size,0,none⟩) n n, .slice none 0 0, .map (some (w.heap.size+1)), .bool false] 204)) (w.heap.size+1+1) (Dv.new n) w.heap.size n none 0 (w.heap.size+1) (List.replicate n nil9):=by
  have hb1:Below (w.alloc (.cells (madeCells (sec9 nil9).toArray (n*65)) 209)).heap.size (w.alloc (.cells (madeCells (sec9 nil9).toArray (n*65)) 209)) (((w.alloc (.cells (madeCells (sec9 nil9).toArray (n*65)) 209)).alloc (.map #[] 0)).alloc (.cells #[.slice (some ⟨w.heap.size,0,none⟩) n n, .slice none 0 0, .map (some (w.heap.size+1)), .bool false] 204)):=
    ((Below.refl _ _).alloc (Nat.le_refl _) _).alloc (by simp) _
  have hl:=Lst.made (w.alloc (.cells (madeCells (sec9 nil9).toArray (n*65)) 209));have es:(w.alloc (.cells (madeCells (sec9 nil9).toArray (n*65)) 209)).heap.size=w.heap.size+1:=by simp
  rw [es] at hl;refine⟨?_, ?_, .inl ⟨rfl,rfl,rfl⟩, ?_, ?_, ?_, ?_,Dv.new_ok n,λ _ i hi=> ?_⟩
  . have:=heap_alloc_new ((w.alloc (.cells (madeCells (sec9 nil9).toArray (n*65)) 209)).alloc (.map #[] 0)) (.cells #[.slice (some ⟨w.heap.size,0,none⟩) n n, .slice none 0 0, .map (some (w.heap.size+1)), .bool false] 204)
    have es2:((w.alloc (.cells (madeCells (sec9 nil9).toArray (n*65)) 209)).alloc (.map #[] 0)).heap.size=w.heap.size+1+1:=by simp
    rw [es2] at this;rw [Dv.new_n];exact this
  . rw [Dv.new_n]
    exact(disk9 w n h2).later hb1
  . exact hl.fr (S:=λ _=>False) (Fr.of_below ((Below.refl _ _).alloc (Nat.le_refl _) _)) (λ h=>h)
  . rw [Dv.new_n,List.length_replicate]
  . rw [Dv.new_n];exact h1
  . rw [Dv.new_n];exact h2
  . rw [Dv.new_n] at hi
    simp [Dv.new,hi,nil9]
theorem jhN (n:Nat)(w:World)(h1:1<=n)(h2:n<=600):Calls Tryz.prog 80 #[.int .i64 (n:Int)] w (jqZ n w):=by
  have hmk:=make9 (n:Int) n rfl h2;have hmm:= @run_makeMap Tryz.prog;have q1:¬(n:Int)<1:=by omega
  have q2:¬(600:Int)<(n:Int):=by omega
  go_enter Tryz.func80,Tryz.ntmps80;go_wp2_with fail;go_ret;refine⟨w.heap.size+1+1,w.heap.size,n,w.heap.size+1,List.replicate n nil9,rfl,Rq.made w n h1 h2,(((Below.refl _ _).alloc (Nat.le_refl _) _).alloc (by simp) _).alloc (by simp;omega) _, ?_, ?_, ?_⟩
  all_goals omega
theorem jpf (z:Int)(w:World)(h1: -9223372036854775808<=z)(h2:z<9223372036854775808)(h:¬(1<=z∧z<=600)):Calls Tryz.prog 80 #[.int .i64 z] w λ e w' =>e= .returned (.pointer none)∧Below w.heap.size w w':=by
  by_cases q1:z<1
  . go_enter Tryz.func80,Tryz.ntmps80
    go_wp2_with fail;go_ret;exact⟨rfl,Below.refl _ _⟩
  . have q2:(600:Int)<z:=by omega
    clear h;go_enter Tryz.func80,Tryz.ntmps80;go_wp2_with fail;go_ret;exact⟨rfl,Below.refl _ _⟩
section
variable {w:World}{D Bd cd cc M:Nat}{x:Dv}{Ac:Option Addr}{ds:List (List UInt8 × Bool)}
def jm0 (n:Nat)(D:Nat)(w:World)(e:Ending)(w':World):Prop:=∃Bd cd M ds,e= .returned (.tuple #[])∧Rq w' D (Dv.new n) Bd cd none 0 M ds∧Fr (λ b=>b=D) w w' ∧w.heap.size<=Bd∧w.heap.size<=M
theorem jdP (h:Rq w D x Bd cd Ac cc M ds):Calls Tryz.prog 67 #[.pointer (some ⟨D,0,none⟩)] w (jm0 x.n D w):=by
  have hm:=jcl h;have c0:=h.c0;have hnew:=jhN x.n w h.n1 h.n2;have HR:=qH h;obtain⟨n,hxn⟩:∃n,n=x.n:=⟨_,rfl⟩;rw [<-hxn] at c0 hnew ⊢;clear hxn h;go_enter Tryz.func67,Tryz.ntmps67;go_wp2_with fail;refine hm.mono ?_;rintro e w1 ⟨rfl,rfl⟩;go_wp2_with fail;refine hnew.mono ?_;clear hnew;rintro e w2 ⟨D',Bd',cd',M',ds',rfl,hq,hb,h1,h2,h3⟩;have k0:=hq.c0;have k1:=hq.c1;have k2:=hq.c2;have k3:=hq.c3;have HQ:=qH hq;have HB:=qH hb;have hDlt:D<w1.heap.size:=block_lt HR.out.box;have hbox:=(hb.block D hDlt).trans HR.out.box;have HX:=qH hbox;have f0:=frozen_of_row w2 D 0 _ _ hbox;have f1:=frozen_of_row w2 D 1 _ _ hbox;have f2:=frozen_of_row w2 D 2 _ _ hbox;have f3:=frozen_of_row w2 D 3 _ _ hbox;have b0:=(HR.out.later hb).c0;have b1:=(HR.out.later hb).c1;have b2:=(HR.out.later hb).c2;have b3:=(HR.out.later hb).c3;clear hq hb hbox c0 hm;go_wp2_with fail;go_end0
  obtain⟨y,hy⟩:∃y,y=Dv.new n:=⟨_,rfl⟩;have hq:=HQ.out;unfold jm0;rw [<-hy] at hq ⊢;have hF:Fr (λ b=>b=D) w2 ((((w2.setCell ⟨D,0,none⟩ (.slice (some ⟨Bd',0,none⟩) y.n cd')).setCell ⟨D,1,none⟩ (.slice none y.wait.length 0)).setCell ⟨D,2,none⟩ (.map (some M'))).setCell ⟨D,3,none⟩ (.bool y.gone)):=
    ((((Fr.refl (λ b=>b=D) _).setCell (p:=⟨D,0,none⟩) (.inr rfl) _).setCell (p:=⟨D,1,none⟩) (.inr rfl) _).setCell (p:=⟨D,2,none⟩) (.inr rfl) _).setCell (p:=⟨D,3,none⟩) (.inr rfl) _
  refine⟨Bd',cd',M',ds',rfl,⟨box4 HX.out _ _ _ _,hq.disk.fr hF ?_, .inl ?_,hq.lst.fr hF ?_,hq.len,hq.n1,hq.n2,hq.ok,hq.has⟩,(Fr.of_below HB.out).trans hF,h2,h3⟩
  . show ¬Bd' =D;omega
  . rw [hy];exact⟨rfl,rfl,rfl⟩
  . show ¬M' =D;omega
def jpg (x:Dv)(D:Nat)(w:World)(e:Ending)(w':World):Prop:=∃Bd cd M ds,e= .returned (.tuple #[])∧Rq w' D x.fail Bd cd none 0 M ds∧Fr (λ b=>b=D) w w' ∧w.heap.size<=Bd∧w.heap.size<=M
theorem jla (h:Rq w D x Bd cd Ac cc M ds):Calls Tryz.prog 64 #[.pointer (some ⟨D,0,none⟩)] w (jpg x D w):=by
  have hm:=jcl h;have hr:=jdP h;have HR:=qH h;clear h;go_enter Tryz.func64,Tryz.ntmps64;go_wp2_with fail;refine hm.mono ?_;rintro e w1 ⟨rfl,rfl⟩;go_wp2_with fail;refine hr.mono ?_;clear hr;rintro e w2 ⟨Bd',cd',M',ds',rfl,hq,hf,h2,h3⟩;have k3:=hq.c3;have kf:=hq.free 3;have HQ:=qH hq;have HF:=qH hf;have hDlt:D<w1.heap.size:=block_lt HR.out.box;clear hq hf hm;go_wp2_with fail;go_end0;have hq:=HQ.out;have hn:x.fail.n=x.n:=by simp [Dv.fail,Dv.n]
  have hk:(Dv.new x.n).n=x.n:=Dv.new_n _;have hF:Fr (λ b=>b=D) w2 (w2.setCell ⟨D,3,none⟩ (.bool true)):=(Fr.refl (λ b=>b=D) _).setCell (p:=⟨D,3,none⟩) (.inr rfl) _;refine⟨Bd',cd',M',ds',rfl,⟨?_, ?_, .inl ⟨rfl,rfl,rfl⟩,hq.lst.fr hF ?_, ?_, ?_, ?_,Dv.Ok.fail x,λ hg=>by cases hg⟩,HF.out.trans hF,h2,h3⟩
  . have hb:=hq.box
    rw [hk] at hb;have:=heap_setCell_same w2 D 3 _ _ (.bool true) hb;rw [hn];exact this
  . rw [hn,<-hk]
    exact hq.disk.fr hF (by show ¬Bd' =D;omega)
  . show ¬M' =D;omega
  . rw [hn,<-hk];exact hq.len
  . rw [hn,<-hk];exact hq.n1
  . rw [hn,<-hk];exact hq.n2
end
end
section
theorem built9 (l:List UInt8):Tryz.prog.built 209 [(0, .agg (cells (pad9 l)).toArray)]=some (sec9 (l,false)).toArray:=by kernel_rfl
theorem jq0 (i:Nat)(l:List UInt8):Tryz.prog.built 230 [(0, .int .i64 (i:Int)),(1, .agg (cells (pad9 l)).toArray)]=some (wrc9 (i,l)).toArray:=by kernel_rfl
theorem build9 (l:List UInt8)(w:World):(Instr.build 209 #[(0, .agg (cells (pad9 l)).toArray)]).run Tryz.prog w= .ok (.agg (sec9 (l,false)).toArray) w:=run_build w _ _ _ (built9 l)
theorem jq1 (i:Nat)(l:List UInt8)(w:World):(Instr.build 230 #[(0, .int .i64 (i:Int)),(1, .agg (cells (pad9 l)).toArray)]).run Tryz.prog w= .ok (.agg (wrc9 (i,l)).toArray) w:=run_build w _ _ _ (jq0 i l)
theorem jqg:(Tryz.prog.info? 230).map (λ i=>(i.zero,i.size,i.bytes))=some (some (.agg (wrc9 (0, [])).toArray),65,72):=by kernel_rfl
theorem zeroW9 (w:World):(zeroValue 230).run Tryz.prog w= .ok (.agg (wrc9 (0, [])).toArray) w:=by kernel_rfl
theorem sizeW9 (p:Nat × List UInt8):(Tryz.prog.info? 230).map (·.size)=some (wrc9 p).toArray.size:=by
  rw [List.size_toArray,jaR]
  kernel_rfl
theorem jq2 (p:Nat × List UInt8):(Tryz.prog.info? 230).map (·.size)=some (wrc9 p).length:=by
  rw [jaR]
  kernel_rfl
theorem sizeS9 (d:List UInt8 × Bool):(Tryz.prog.info? 209).map (·.size)=some (sec9 d).toArray.size:=by
  rw [List.size_toArray,jaY]
  kernel_rfl
theorem sameW9 (p q:Nat × List UInt8):(wrc9 p).toArray.size=(wrc9 q).toArray.size:=by rw [List.size_toArray,List.size_toArray,jaR,jaR]
theorem oneW9 (p:Nat × List UInt8):(wrc9 p).toArray.all (·.oneCell')=true:=all_oneCell_toArray (jdY p)
theorem oneS9 (d:List UInt8 × Bool):(sec9 d).toArray.all (·.oneCell')=true:=all_oneCell_toArray (jg4 d)
theorem fill9 (p:Nat × List UInt8):Instr.fill (λ i=>some (i*65,65)) ((Array.range (1*65)).map ((Value.agg (wrc9 (0, [])).toArray).cells[· % (Value.agg (wrc9 (0, [])).toArray).cells.size]!)) [(0, .agg (wrc9 p).toArray)]=some (wrc9 p).toArray:=by kernel_rfl
theorem jm1 {p:Nat × List UInt8}(a:Act)(x:Operand)(h:a.eval x= .agg (wrc9 p).toArray):Instr.fill (λ i=>some (i*65,65)) ((Array.range (1*65)).map ((Value.agg (wrc9 (0, [])).toArray).cells[· % (Value.agg (wrc9 (0, [])).toArray).cells.size]!)) (Array.map (λ (i,x)=>(i,a.eval x)) #[((0:Nat),x)]).toList=some (wrc9 p).toArray:=by
  have e:(Array.map (λ (i,x)=>(i,a.eval x)) #[((0:Nat),x)]).toList= [(0,a.eval x)]:=by simp
  rw [e,h];exact fill9 p
theorem readW9 {w:World}{b:Nat}{p:Nat × List UInt8}{t:TypeId}(h:w.heap[b]? =some (.cells (wrc9 p).toArray t (0,0))):w.cell? ⟨b,0,none⟩=some (.int .i64 (p.1:Int))∧w.rangeAt b 1 (cells (pad9 p.2)):=by
  refine⟨by rw [cell_of_row _ _ _ _ _ _ h];rfl,λ j v hv=> ?_⟩;rw [cell_of_row _ _ _ _ _ _ h,List.getElem?_toArray,wrc9,Nat.add_comm,List.getElem?_cons_succ];exact hv
def selq {α:Type}(q:Nat->Bool):List α->Nat->List α
  | [],_=> []
  |a::l,k=>if q k=true then a::selq q l (k+1) else selq q l (k+1)
theorem jfu {α:Type}(q:Nat->Bool)(a:α):∀(l:List α) (k:Nat),selq q (l ++ [a]) k=selq q l k++if q (k+l.length)=true then [a] else []
  | [],k=>by
    show (if q k=true then [a] else [])=_
    rfl
  |b::l,k=>by
    show (if q k=true then b::selq q (l ++ [a]) (k+1) else selq q (l ++ [a]) (k+1))=(if q k=true then b::selq q l (k+1) else selq q l (k+1))++_
    rw [jfu q a l (k+1),List.length_cons,show k+1+l.length=k +(l.length+1) from by omega]
    split<;>rfl
theorem jke {α:Type}:∀(l:List α) (k:Nat),selq (λ _=>true) l k=l
  | [],_=>rfl
  |a::l,k=>by
    show (if true=true then a::selq (λ _=>true) l (k+1) else _)=_
    rw [if_pos rfl,jke l (k+1)]
theorem jhO {α:Type}(ks:List Bool):∀(l:List α) (k:Nat),selq (λ i=>decide (i<ks.length) && ks.getD i false) l k=Dv.kept l (ks.drop k)
  | [],k=>by cases ks.drop k<;>rfl
  |a::l,k=>by
    show (if (decide (k<ks.length) && ks.getD k false)=true then a::selq _ l (k+1) else selq _ l (k+1))=_
    rw [jhO ks l (k+1)]
    by_cases hk:k<ks.length
    . rw [List.drop_eq_getElem_cons hk,decide_eq_true hk,Bool.true_and]
      show _=(if ks[k]=true then a::Dv.kept l (ks.drop (k+1)) else Dv.kept l (ks.drop (k+1)))
      rw [List.getD_eq_getElem?_getD,List.getElem?_eq_getElem hk,Option.getD_some]
    . rw [decide_eq_false hk,Bool.false_and,if_neg (by decide),List.drop_of_length_le (by omega),List.drop_of_length_le (by omega)]
      cases l<;>rfl
def Dv.store (x:Dv)(q:Nat->Bool):Dv:=(x.puts (selq q x.wait 0)).quiet
theorem Dv.store_flush (x:Dv):x.store (λ _=>true)=x.flush:=by rw [Dv.store,jke];rfl
theorem Dv.store_crash (x:Dv)(ks:List Bool):x.store (λ i=>decide (i<ks.length) && ks.getD i false)=x.crash ks:=by rw [Dv.store,jhO,List.drop_zero];rfl
theorem Dv.puts_wait:∀(l:List (Nat × List UInt8)) (x:Dv),(x.puts l).wait=x.wait
  | [],_=>rfl
  |p::l,x=>(Dv.puts_wait l (x.put p)).trans rfl
theorem Dv.puts_snoc (x:Dv)(l:List (Nat × List UInt8))(p:Nat × List UInt8):x.puts (l ++ [p])=(x.puts l).put p:=by rw [Dv.puts,List.foldl_append];rfl
end
section
theorem jlb {ρ:Operand->Value}{o:Oper}{x:Operand}{w:World}{b off:Nat}{l:List UInt8}(ho:o.op= .load 207 x)(hx:ρ x= .pointer (some ⟨b,off,none⟩))(h:w.rangeAt b off (cells (pad9 l))):(execOp ρ o).run Tryz.prog w= .ok (.value (.agg (cells (pad9 l)).toArray)) w:=by
  unfold execOp;simp only [ho,hx,Instr.loadAt,Instr.sureAddr,Sem.run_bind,Sem.run_pure,Result.andThen_ok,run_loadVar_mid w b off 207 _ _ h Tryz.underlying207 rfl (jgp l)]
theorem ji9 {ρ:Operand->Value}{o:Oper}{x:Operand}{w:World}{l:List UInt8}(ho:o.op= .build 209 #[(0,x)])(hx:ρ x= .agg (cells (pad9 l)).toArray):(execOp ρ o).run Tryz.prog w= .ok (.value (.agg (sec9 (l,false)).toArray)) w:=by
  have h:=build9 l w;unfold execOp;simp [ho,hx,h,Result.andThen]
section
variable {w:World}{D Bd cd cc M:Nat}{x:Dv}{Ac:Option Addr}{ds:List (List UInt8 × Bool)}
theorem Lst.clear {w:World}{M:Nat}{l:List (Nat × List UInt8)}(h:Lst w M l):∃es clock,w.heap[M]? =some (.map es clock)∧Lst {w with heap:=w.heap.setIfInBounds M (.map #[] clock)} M []:=by
  obtain⟨es,clock,hb⟩:=(show ∃es clock,w.heap[M]? =some (.map es clock) by
    obtain⟨D,⟨es,clock,hb,_⟩,_⟩:=h.ex;exact⟨es,clock,hb⟩)
  refine⟨es,clock,hb, .map [],⟨#[],clock,(MapKept.heap_set hb).1,⟨by simp,MapKept.stamped_empty clock,by simp⟩,Nat.le_refl _,rfl⟩,⟨_,rfl⟩,λ i zd=>by
    show _=zd
    simp [WideAt.atKey_none]⟩
theorem jlc {w:World}{M:Nat}{es:Array MapEntry}{clock:Nat}{ty:TypeId}(hb:w.heap[M]? =some (.map es clock)):(Builtin.clear_ #[202] ty #[.map (some M)]).run Tryz.prog w= .ok (.tuple #[]) {w with heap:=w.heap.setIfInBounds M (.map #[] clock)}:=by
  simp [Builtin.clear_,run_underlying Tryz.underlying202,MapKept.run_getObj_map hb,MapKept.run_setObj_map _ hb,Result.andThen]
theorem Fr.setBlk {w:World}{M:Nat}(o:Obj):Fr (λ b=>b=M) w {w with heap:=w.heap.setIfInBounds M o}:=
  ⟨rfl,rfl,rfl,by simp,λ k hk hs=>by
    have:M≠k:=λ e=>hs e.symm
    simp [this]⟩
theorem Rq.put {p:Nat × List UInt8}(h:Rq w D x Bd cd Ac cc M ds)(hg:x.gone=false)(hp:p.1<x.n)(hl:p.2.length=64):Rq (w.setCells Bd (p.1*65) (sec9 (p.2,false))) D (x.put p) Bd cd Ac cc M (ds.set p.1 (p.2,false)):=by
  have hF:Fr (λ b=>b=Bd) w (w.setCells Bd (p.1*65) (sec9 (p.2,false))):=Fr.setCells _ (Fr.refl _ _) rfl;have hn:(x.put p).n=x.n:=Dv.put_n p;refine⟨?_, ?_, ?_,h.lst.fr hF (λ e=>h.ne3 e.symm), ?_, ?_, ?_,h.ok.put ⟨hp,hl⟩,λ _ i hi=> ?_⟩
  . rw [hn]
    exact hF.row_some h.box h.ne1
  . rw [hn]
    exact h.disk.sec_put hp _
  . rcases h.cch with q|⟨Bc,hA,hc⟩
    . exact .inl q
    . exact .inr ⟨Bc,hA,hc.fr hF (h.ne4 hA).2.1⟩
  . rw [hn,List.length_set];exact h.len
  . rw [hn];exact h.n1
  . rw [hn];exact h.n2
  . rw [hn] at hi
    have hst:=(h.ok.live hg).1;have hrt:x.rot.length=x.n:=rfl;have hd:=h.len
    by_cases he:p.1=i
    . subst he
      simp [Dv.put,hd,hst,hrt,hp]
    . have:=h.has hg i hi
      simp [Dv.put,he]
      simpa using this
theorem jfv (g:Nat)(eg:∀args w,(callFunc g args).run Tryz.prog w= .ok (.enter g args) w)(caps:Array Value)(q:Nat->Bool)(h:Rq w D x Bd cd Ac cc M ds)
    (ht:∀(W:World) (i:Nat),i<x.wait.length->Fr (Blk9 D Bd M Ac) w W->Calls Tryz.prog g (#[.int .i64 (i:Int)] ++ caps) W λ e w' =>e= .returned (.bool (q i))∧w' =W)(hwl:x.wait.length<=100000):
    Calls Tryz.prog 105 #[.pointer (some ⟨D,0,none⟩), .func (.func g) #[] caps] w λ e w' =>e= .returned (.tuple #[])∧Fr (Blk9 D Bd M Ac) w w' ∧∃ds',Rq w' D (x.store q) Bd cd none 0 M ds':=by
  have c1:=h.c1;obtain⟨nw,hnw⟩:∃nw,nw=x.wait.length:=⟨_,rfl⟩;rw [<-hnw] at c1 ht hwl;have HN:=qH hnw;have HT:=qH ht;have HR:=qH h;clear hnw h ht;go_enter Tryz.func105,Tryz.ntmps105;go_wp2_with fail;clear c1;go_loopw [11] (λ i wr=>∃(k:Nat) (ds':List (List UInt8 × Bool)),k<=nw∧i= .int .i64 (k:Int)∧Rq wr D (x.puts (selq q (x.wait.take k) 0)) Bd cd Ac cc M ds' ∧Fr (Blk9 D Bd M Ac) w wr) (λ i _=>nw-(intOf i).toNat)
  case atStart=>exact⟨0,ds,by omega,rfl,HR.out,Fr.refl _ _⟩
  case round=>
    obtain⟨k,ds',hk,rfl,hq,hf⟩:=hrel;obtain⟨y,hy⟩:∃y,y=x.puts (selq q (x.wait.take k) 0):=⟨_,rfl⟩;rw [<-hy] at hq;have hwy:y.wait=x.wait:=by rw [hy,Dv.puts_wait]
    have Hwy:=qH hwy;have Hy:=qH hy;have HQ:=qH hq;have HF:=qH hf;clear hq hf hy hwy
    by_cases hlt:k<nw
    . have hki:(k:Int)<(nw:Int):=by omega
      have hnxt:x.wait.take (k+1)=x.wait.take k ++ [x.wait[k]'(by have:=HN.out;omega)]:=by simp
      obtain⟨p,hpe⟩:∃p,p=x.wait[k]'(by have:=HN.out;omega):=⟨_,rfl⟩;rw [<-hpe] at hnxt;have hp:y.wait[k]? =some p:=by rw [Hwy.out,hpe];exact List.getElem?_eq_getElem _
      have Hnxt:=qH hnxt;obtain⟨hp1,hp2⟩:=HQ.out.ok.wait p (List.mem_of_getElem? hp);obtain⟨Bc,hA,hc⟩:∃Bc,Ac=some ⟨Bc,0,none⟩∧Rw wr Bc 230 65 y.wait.length cc (y.wait.flatMap wrc9):=by
        rcases HQ.out.cch with ⟨h0,_⟩|hh
        . rw [h0] at hp;cases hp
        . exact hh
      subst hA;have hrgW:=hc.wr_all hp;have Hp2:=qH hp2;have hg:y.gone=false:=by
        cases hgg:y.gone
        . rfl
        . have:=HQ.out.ok.dead hgg
          rw [this] at hp;cases hp
      have Hg:=qH hg;have hwz:=zeroW9;clear hnxt hpe hp hc hp2 hg;go_wp2_with (first
        |(refine jkl (d:=15) ?_;refine wpList_load_mid (op:=⟨some 15,_,_,_,_,_⟩) rfl 230 (.tmp 14) rfl Bc (k*65) rfl (wrc9 p) _ hrgW Tryz.underlying230 rfl (jq2 p) ?_)
        |(refine jek ?_;refine wpList_store_row (o:=⟨none,_,_,_,_,_⟩) rfl 230 (.tmp 5) (.tmp 15) rfl wr.heap.size _ rfl rfl 230 (wrc9 (0, [])).toArray (heap_alloc_last _ _) (sizeW9 p) (sameW9 _ _) (oneW9 p) ?_;rw [World.setRow_alloc_new]))
      have hB2:Below wr.heap.size wr (wr.alloc (.cells (wrc9 p).toArray 230)):=(Below.refl _ _).alloc (Nat.le_refl _) _;have hV:=readW9 (heap_alloc_new wr (.cells (wrc9 p).toArray 230));obtain⟨w2,hw2⟩:∃w2,w2=wr.alloc (.cells (wrc9 p).toArray 230):=⟨_,rfl⟩;rw [<-hw2] at hB2 hV ⊢;clear hw2 hrgW hwz;have HF2:=qH (HF.out.trans (Fr.of_below (S:=Blk9 D Bd M (some ⟨Bc,0,none⟩)) hB2));have HQ2:=qH (HQ.out.later hB2);have V0:=qH (show w2.drew.cell? ⟨wr.heap.size,0,none⟩=_ from hV.1);have V1:=qH (show w2.drew.rangeAt wr.heap.size 1 _ from hV.2);have C0:=qH (show w2.drew.cell? ⟨D,0,none⟩=_ from HQ2.out.c0);have N0:=qH (show ¬D=Bd from HQ2.out.ne1);have N1:=qH (show ¬wr.heap.size=Bd from by have:=HQ.out.lt (b:=Bd) (.inr (.inl rfl));omega)
      have HTh:=qH (show w2.drew.there Bd (p.1*65) (sec9 (p.2,false)).toArray.size from (HQ2.out.disk.later (Below.drew (Below.refl _ _))).there (by rw [List.size_toArray,jaY];omega));have hp1i:(p.1:Int)<(y.n:Int):=by omega
      have hh:=HT.out w2 k hlt HF2.out;clear hB2 hV
      by_cases hqk:q k=true
      . rw [hqk] at hh
        refine hh.mono ?_;clear hh;rintro e w3 ⟨rfl,hw3⟩;obtain rfl:w2=w3:=hw3.symm;have Hqk:=qH hqk;clear hqk;go_wp2_with fail;refine wp_region_held_drew (S:=λ w' =>Fr (λ b=>b=Bd) w2.drew w') (by kernel_rfl) (Fr.refl _ _) (λ hHeld=> ?_);clear hHeld;refine tA 0 (some 19) rfl (Fr.refl _ _) ?_;refine tA 1 (some 20) rfl (Fr.refl _ _) ?_;refine tA 2 (some 21) rfl (Fr.refl _ _) ?_;refine tL 3 (some 22) (v:= ?vs3) rfl ?ys3 (Fr.refl _ _) ?rs3
        case ys3=>
          intro wq hSw
          (try dsimp only at hSw)
          have hq:=hSw.cell_some C0.out N0.out;go_simp<;>with_reducible rfl
        try simp only [Act.put,sA,sB,sC]
        refine tA 4 (some 23) rfl (Fr.refl _ _) ?_;refine tL 5 (some 24) (v:= ?vs5) rfl ?ys5 (Fr.refl _ _) ?rs5
        case ys5=>
          intro wq hSw
          (try dsimp only at hSw)
          have hq:=hSw.cell_some V0.out N1.out;go_simp<;>with_reducible rfl
        try simp only [Act.put,sA,sB,sC]
        refine tA 6 (some 25) rfl (Fr.refl _ _) ?_;refine tL 7 (some 26) (v:=(.agg (cells (pad9 p.2)).toArray)) rfl ?ys7 (Fr.refl _ _) ?rs7
        case ys7=>
          intro wq hSw;exact jlb (x:= .tmp 25) (b:=wr.heap.size) (off:=1) (l:=p.2) rfl rfl (λ j v hv=>hSw.cell_some (V1.out j v hv) N1.out)
        try simp only [Act.put,sA,sB,sC]
        refine tL 8 (some 27) (v:=(.agg (sec9 (p.2,false)).toArray)) rfl ?ys8 (Fr.refl _ _) ?rs8
        case ys8=>
          intro wq hSw;exact ji9 (x:= .tmp 26) (l:=p.2) rfl rfl
        try simp only [Act.put,sA,sB,sC]
        refine tA 9 (some 28) rfl (Fr.refl _ _) ?_;refine rW 10 none rfl λ K hK=> ?_
        refine wp_store_mid (op:=⟨none,_,_,_,_,_⟩) 209 (.tmp 28) (.tmp 27) rfl Bd (p.1*65) (sec9 (p.2,false)).toArray rfl rfl (HTh.out) (sizeS9 _) (oneS9 _) ?_;rw [List.toList_toArray];have hfr:Fr (λ b=>b=Bd) w2.drew (w2.drew.setCells Bd (p.1*65) (sec9 (p.2,false))):=Fr.setCells _ (Fr.refl _ _) rfl;obtain⟨w4,hw4⟩:∃w4,w4=w2.drew.setCells Bd (p.1*65) (sec9 (p.2,false)):=⟨_,rfl⟩;rw [<-hw4] at hfr ⊢;have HF4:=qH hfr;have Hw4:=qH hw4;clear hw4;refine hK.out _ _ hfr (λ hHeld=> ?_);clear hK K hHeld
        try simp only [Act.put]
        refine jac (S':=λ w' =>Fr (λ b=>b=Bd) w4 w') (λ w' h=>hfr.trans h) ?_;clear hfr;refine tD ?_;go_wp2_with fail;go_roundw
        case rel=>
          refine⟨k+1,ds'.set p.1 (p.2,false),by omega,by go_num, ?_, ?_⟩
          . rw [Hnxt.out,jfu,Nat.zero_add,List.length_take,Nat.min_eq_left (by have:=HN.out;omega),if_pos Hqk.out,Dv.puts_snoc,<-Hy.out]
            have hw:=Hw4.out;subst hw;exact(HQ2.out.later (Below.drew (Below.refl _ _))).put Hg.out hp1 Hp2.out
          . exact HF2.out.trans (((Fr.refl _ _).drew).trans (HF4.out.mono λ b hb=> .inr (.inl hb)))
        case measure=>simp [intOf];omega
      . have hqf:q k=false:=by simpa using hqk
        rw [hqf] at hh;refine hh.mono ?_;clear hh;rintro e w3 ⟨rfl,hw3⟩;obtain rfl:w2=w3:=hw3.symm;have Hqk:=qH hqk;clear hqk hqf;go_wp2_with fail;go_roundw
        case rel=>
          refine⟨k+1,ds',by omega,by go_num, ?_,HF2.out⟩;rw [Hnxt.out,jfu,Nat.zero_add,List.length_take,Nat.min_eq_left (by have:=HN.out;omega),if_neg Hqk.out,List.append_nil,<-Hy.out];exact HQ2.out
        case measure=>simp [intOf];omega
    . have hki:¬(k:Int)<(nw:Int):=by omega
      have k1:=HQ.out.c1;have kf:=HQ.out.free 1;have k2:=HQ.out.c2;have hF5:Fr (λ b=>b=D) wr (wr.setCell ⟨D,1,none⟩ (.slice none 0 0)):=(Fr.refl (λ b=>b=D) _).setCell (p:=⟨D,1,none⟩) (.inr rfl) _;have hl5:=HQ.out.lst.fr hF5 (λ e=>HQ.out.ne2 e.symm);obtain⟨es,clock,hb5,hl6⟩:=hl5.clear;have hcl:=λ ty=>jlc (ty:=ty) hb5
      have HF5:=qH hF5;have HB5:=qH hb5;have HL6:=qH hl6;clear hF5 hb5 hl5 hl6;go_wp2_with fail;go_end0;obtain rfl:k=nw:=by omega
      have hxs:x.store q=y.quiet:=by rw [Dv.store,Hy.out,List.take_of_length_le (by have:=HN.out;omega)]
      have hq:=HQ.out;have hG:Fr (λ b=>b=M) (wr.setCell ⟨D,1,none⟩ (.slice none 0 0)) _:=Fr.setBlk (.map #[] clock);refine⟨rfl,HF.out.trans ((HF5.out.mono λ b hb=> .inl hb).trans (hG.mono λ b hb=> .inr (.inr (.inl hb)))),ds', ?_⟩;rw [hxs];refine⟨hG.row_some (heap_setCell_same wr D 1 _ _ (.slice none 0 0) hq.box) hq.ne2,(hq.disk.fr HF5.out (λ e=>hq.ne1 e.symm)).fr hG hq.ne3, .inl ⟨rfl,rfl,rfl⟩,HL6.out,hq.len,hq.n1,hq.n2,hq.ok.quiet,hq.has⟩
end
end
section
theorem jgT (l:List Bool):(jbs l).length=l.length:=by simp [jbs]
section
variable {w:World}{D Bd cd cc M:Nat}{x:Dv}{Ac:Option Addr}{ds:List (List UInt8 × Bool)}
theorem jm2 (i:Nat)(W:World):Calls Tryz.prog 106 #[.int .i64 (i:Int)] W λ e w' =>e= .returned (.bool true)∧w' =W:=by
  go_enter Tryz.func106,Tryz.ntmps106;go_wp2_with fail;go_ret;exact⟨rfl,rfl⟩
theorem jld (i K:Nat)(A:Option Addr)(n c:Nat)(ks:List Bool)(W:World)(hi:i<=100000)(hK:W.cell? ⟨K,0,none⟩=some (.slice A n c))(hs:Sl W 1 A n c (jbs ks)):
    Calls Tryz.prog 108 #[.int .i64 (i:Int), .pointer (some ⟨K,0,none⟩)] W λ e w' =>e= .returned (.bool (decide (i<ks.length) && ks.getD i false))∧w' =W:=by
  have hn:ks.length=n:=by have:=hs.len;rw [jgT] at this;omega
  by_cases hlt:i<n
  . obtain⟨b,o,rfl,hc⟩:=hs.at_ hlt
    have hcell:=hc i (.bool (ks.getD i false)) (by
      have:i<ks.length:=by omega
      simp [jbs,this])
    have hd:decide (i<ks.length)=true:=decide_eq_true (by omega);rw [hd,Bool.true_and];obtain⟨bb,hb⟩:∃bb,bb=ks.getD i false:=⟨_,rfl⟩;rw [<-hb] at hcell ⊢;have hki:(i:Int)<(n:Int):=by omega
    clear hb hd hc hn hs hi;go_enter Tryz.func108,Tryz.ntmps108;go_wp2_with fail;go_ret;exact⟨rfl,rfl⟩
  . have hd:decide (i<ks.length)=false:=decide_eq_false (by omega)
    rw [hd,Bool.false_and];have hki:¬(i:Int)<(n:Int):=by omega
    clear hd hn hs hi hlt;go_enter Tryz.func108,Tryz.ntmps108;go_wp2_with fail;go_ret;exact⟨rfl,rfl⟩
def RetSt9 (y:Dv)(D Bd cd M:Nat)(Ac:Option Addr)(v:Value)(w:World)(e:Ending)(w':World):Prop:=e= .returned v∧Fr (Blk9 D Bd M Ac) w w' ∧∃cc' Ac' ds',Rq w' D y Bd cd Ac' cc' M ds' ∧∀b,Blk9 D Bd M Ac' b->Blk9 D Bd M Ac b∨w.heap.size<=b
theorem jhP {D Bd M:Nat}{Ac:Option Addr}:∀b,Blk9 D Bd M none b->Blk9 D Bd M Ac b:=λ b h=>by
  rcases h with h|h|h|⟨o,h⟩
  . exact .inl h
  . exact .inr (.inl h)
  . exact .inr (.inr (.inl h))
  . cases h
theorem jja (hwl:x.wait.length<=100000)(h:Rq w D x Bd cd Ac cc M ds):Calls Tryz.prog 58 #[.pointer (some ⟨D,0,none⟩)] w (RetSt9 x.flush1 D Bd cd M Ac (.int .i64 x.flushX) w):=by
  have hm:=jeF h;have eg:∀args w,(callFunc 106 args).run Tryz.prog w= .ok (.enter 106 args) w:=enters_of Tryz.func106 (by kernel_rfl) rfl;have hst:=jfv 106 eg #[] (λ _=>true) h (λ W i _ _=>jm2 i W) hwl;rw [Dv.store_flush] at hst
  cases hg:x.gone
  . rw [hg,if_neg (by decide)] at hm
    have e1:x.flushX=0:=by rw [Dv.flushX,hg];rfl
    have e2:x.flush1=x.flush:=by rw [Dv.flush1,hg];rfl
    rw [e1,e2];clear e1 e2 hg eg hwl;go_enter Tryz.func58,Tryz.ntmps58;go_wp2_with fail;refine hm.mono ?_;rintro e w1 ⟨rfl,rfl⟩;go_wp2_with fail;refine hst.mono ?_;clear hst;rintro e w2 ⟨rfl,hF,ds',hq⟩;have HF:=qH hF;have HQ:=qH hq;clear hF hq;go_wp2_with fail;go_ret;exact⟨rfl,HF.out,0,none,ds',HQ.out,λ b hb=> .inl (jhP b hb)⟩
  . rw [hg,if_pos rfl] at hm
    have e1:x.flushX=90:=by rw [Dv.flushX,hg];rfl
    have e2:x.flush1=x:=by rw [Dv.flush1,hg];rfl
    rw [e1,e2];clear e1 e2 hg eg hwl hst;go_enter Tryz.func58,Tryz.ntmps58;go_wp2_with fail;refine hm.mono ?_;rintro e w1 ⟨rfl,rfl⟩;go_wp2_with fail;go_ret;exact⟨rfl,Fr.refl _ _,cc,Ac,ds,h,λ _ hb=> .inl hb⟩
theorem jjb (A:Option Addr)(n c:Nat)(ks:List Bool)(hwl:x.wait.length<=100000)(h:Rq w D x Bd cd Ac cc M ds)(hs:Sl w 1 A n c (jbs ks))(hA:∀b o,0<n->A=some ⟨b,o,none⟩->¬Blk9 D Bd M Ac b):
    Calls Tryz.prog 61 #[.pointer (some ⟨D,0,none⟩), .slice A n c] w (RetSt9 (x.crash ks) D Bd cd M Ac (.tuple #[]) w):=by
  have eg:∀args w,(callFunc 108 args).run Tryz.prog w= .ok (.enter 108 args) w:=enters_of Tryz.func108 (by kernel_rfl) rfl;have hB1:Below w.heap.size w (w.alloc (.cells #[.slice A n c] 78)):=(Below.refl _ _).alloc (Nat.le_refl _) _;have hK:(w.alloc (.cells #[.slice A n c] 78)).cell? ⟨w.heap.size,0,none⟩=some (.slice A n c):=by rw [cell_of_row _ _ _ _ _ _ (heap_alloc_new w _)];rfl
  have hm:=jcl (h.later hB1);have hst:=jfv 108 eg #[.pointer (some ⟨w.heap.size,0,none⟩)] (λ i=>decide (i<ks.length) && ks.getD i false) (h.later hB1) (λ W i hi hf=>by
    refine jld i w.heap.size A n c ks W (by omega) (hf.cell_some hK (λ hb=>by have:=h.lt hb;simp at this)) ?_;exact(hs.below hB1 (Nat.le_refl _)).fr hf hA) hwl
  rw [Dv.store_crash] at hst;clear eg hwl;obtain⟨w0,hw0⟩:∃w0,w0=w.alloc (.cells #[.slice A n c] 78):=⟨_,rfl⟩;rw [<-hw0] at hm hst hB1;have Hw0:=qH hw0;clear hw0;go_enter Tryz.func61,Tryz.ntmps61;go_wp2_with fail;rw [<-Hw0.out];refine hm.mono ?_;rintro e w1 ⟨rfl,hw1⟩;obtain rfl:w0=w1:=hw1.symm;go_wp2_with fail;refine hst.mono ?_;clear hst;rintro e w2 ⟨rfl,hF,ds',hq⟩;have HF:=qH hF;have HQ:=qH hq;have HB:=qH hB1;clear hF hq hm hB1;go_wp2_with fail;go_end0;exact⟨rfl,(Fr.of_below HB.out).trans HF.out,0,none,ds',HQ.out,λ b hb=> .inl (jhP b hb)⟩
end
end
section
theorem jfw {α β:Type}{f:α->List β}{k:Nat}(h:∀a,(f a).length=k):∀{l:List α} {i:Nat} {a a':α} {j:Nat} {v:β},l[i]? =some a->j<k->(f a).set j v=f a' ->(l.flatMap f).set (i*k+j) v=(l.set i a').flatMap f
  |b::l,0,a,a',j,v,hb,hj,hv=>by
    have hb:b=a:=by simpa using hb
    subst hb;rw [List.flatMap_cons,Nat.zero_mul,Nat.zero_add,List.set_append_left _ _ (by rw [h];exact hj),hv,List.set_cons_zero,List.flatMap_cons]
  |b::l,i+1,a,a',j,v,hb,hj,hv=>by
    have hb:l[i]? =some a:=by simpa using hb
    have e:(i+1)*k+j=i*k+j+k:=by rw [Nat.add_mul];omega
    rw [List.flatMap_cons,e,List.set_append_right _ _ (by rw [h];omega),h,Nat.add_sub_cancel,jfw h hb hj hv,List.set_cons_succ,List.flatMap_cons]
theorem Rw.put1 {w:World}{b:Nat}{T:TypeId}{k n cap:Nat}{xs:List Value}(h:Rw w b T k n cap xs)(o:Nat)(v:Value):Rw (w.setCell ⟨b,o,none⟩ v) b T k n cap (xs.set o v):=by
  obtain⟨cur,hb,hs,rfl⟩:=h.ex;exact⟨⟨_,heap_setCell_same w b o cur T v hb,by rw [Array.size_setIfInBounds];exact hs,by rw [Array.toList_setIfInBounds,List.take_set]⟩,h.le,h.top⟩
theorem jm3 {b:List UInt8}(hb:b.length=64)(r:Bool){j:Nat}(hj:j<64)(u:UInt8):(sec9 (b,r)).set j (.int .u8 (u.toNat:Int))=sec9 (b.set j u,r):=by
  unfold sec9;rw [jel hb,jel (by rw [List.length_set];exact hb),List.set_append_left _ _ (by rw [jaa,hb];exact hj)];simp [cells,bv,List.map_set]
theorem jm4 {b:List UInt8}(hb:b.length=64)(r t:Bool):(sec9 (b,r)).set 64 (.bool t)=sec9 (b,t):=by
  unfold sec9;rw [jel hb,List.set_append_right _ _ (by rw [jaa,hb];exact Nat.le_refl _),jaa,hb]
  rfl
namespace Dv
def spoilB (b:List UInt8)(o m k:Nat):List UInt8:=(List.range 64).map λ j=>if o<=j∧j<o+k then b.getD j 0 ^^^ UInt8.ofNat (m>>>(8*(j-o))) else b.getD j 0
section
variable {b:List UInt8}{o m:Nat}
theorem jde (k:Nat):(spoilB b o m k).length=64:=by simp [spoilB]
theorem spoilB_zero (hb:b.length=64):spoilB b o m 0=b:=by
  apply List.ext_getElem
  . rw [jde,hb]
  . intro i h1 h2
    simp only [spoilB,List.getElem_map,List.getElem_range];rw [if_neg (by omega)];simp [h2]
theorem spoilB_get (k:Nat)(h:o+k<64):(spoilB b o m k).getD (o+k) 0=b.getD (o+k) 0:=by
  have:o+k<(spoilB b o m k).length:=by rw [jde];exact h
  rw [List.getD_eq_getElem?_getD,List.getElem?_eq_getElem this,Option.getD_some];simp only [spoilB,List.getElem_map,List.getElem_range];rw [if_neg (by omega)]
theorem spoilB_set (k:Nat)(h:o+k<64):(spoilB b o m k).set (o+k) (b.getD (o+k) 0 ^^^ UInt8.ofNat (m>>>(8*k)))=spoilB b o m (k+1):=by
  apply List.ext_getElem
  . rw [List.length_set,jde,jde]
  . intro i h1 h2
    rw [List.getElem_set];simp only [spoilB,List.getElem_map,List.getElem_range]
    by_cases hi:o+k=i
    . rw [if_pos hi,if_pos (by omega),<-hi,show o+k-o=k from by omega]
    . rw [if_neg hi]
      by_cases h3:o<=i∧i<o+k
      . rw [if_pos h3,if_pos (by omega)]
      . rw [if_neg h3,if_neg (by omega)]
theorem spoilB_four (hb:b.length=64):spoilB b o m 4=spoil b o m:=by
  unfold spoilB spoil;rw [hb]
theorem Ok.setSt {x:Dv}(ho:Ok x){i:Nat}(hi:i<x.n){c:List UInt8}(hc:c.length=64):Ok ⟨x.st.set i c,x.rot,x.wait,x.gone⟩:=by
  refine⟨ho.wait,λ hg=> ?_,ho.dead⟩;have h:=ho.live hg;refine⟨by rw [List.length_set];exact h.1,λ j hj=> ?_⟩
  by_cases he:i=j
  . subst he
    have:i<x.st.length:=by rw [h.1];exact hi
    simp [this,hc]
  . have:=h.2 j hj
    simpa [he] using this
theorem Ok.setRot {x:Dv}(ho:Ok x)(i:Nat):Ok ⟨x.st,x.rot.set i true,x.wait,x.gone⟩:=by
  have e:Dv.n ⟨x.st,x.rot.set i true,x.wait,x.gone⟩=x.n:=by simp [Dv.n]
  refine⟨λ p hp=>by rw [e];exact ho.wait p hp,λ hg=> ?_,ho.dead⟩;rw [e];exact ho.live hg
end
end Dv
section
variable {w:World}{D Bd cd cc M:Nat}{x:Dv}{Ac:Option Addr}{ds:List (List UInt8 × Bool)}
theorem Rq.byte {i j:Nat}(h:Rq w D x Bd cd Ac cc M ds)(hg:x.gone=false)(hi:i<x.n)(hj:j<64)(u:UInt8):
    Rq (w.setCell ⟨Bd,i*65+j,none⟩ (.int .u8 (u.toNat:Int))) D ⟨x.st.set i ((x.st.getD i []).set j u),x.rot,x.wait,x.gone⟩ Bd cd Ac cc M (ds.set i ((x.st.getD i []).set j u,x.rot.getD i false)):=by
  have hF:Fr (λ b=>b=Bd) w (w.setCell ⟨Bd,i*65+j,none⟩ (.int .u8 (u.toNat:Int))):=(Fr.refl (λ b=>b=Bd) _).setCell (p:=⟨Bd,i*65+j,none⟩) (.inr rfl) _;obtain⟨hd,hl⟩:=h.sect hg hi;have hdisk:=h.disk.put1 (i*65+j) (.int .u8 (u.toNat:Int));rw [jfw jaY hd (by omega) (jm3 hl _ hj u)] at hdisk;refine⟨hF.row_some h.box h.ne1,hdisk, ?_,h.lst.fr hF (λ e=>h.ne3 e.symm),by rw [List.length_set];exact h.len,h.n1,h.n2,h.ok.setSt hi (by rw [List.length_set];exact hl),λ _ k hk=> ?_⟩
  . rcases h.cch with q|⟨Bc,hA,hc⟩
    . exact .inl q
    . exact .inr ⟨Bc,hA,hc.fr hF (h.ne4 hA).2.1⟩
  . have hst:=(h.ok.live hg).1
    by_cases he:i=k
    . subst he
      have hdl:=h.len;have h1:i<ds.length:=by omega
      have h2:i<x.st.length:=by omega
      simp [h1,h2]
    . have:=h.has hg k hk
      simp [he]
      simpa using this
theorem Rq.flag {i:Nat}(h:Rq w D x Bd cd Ac cc M ds)(hg:x.gone=false)(hi:i<x.n):
    Rq (w.setCell ⟨Bd,i*65+64,none⟩ (.bool true)) D ⟨x.st,x.rot.set i true,x.wait,x.gone⟩ Bd cd Ac cc M (ds.set i (x.st.getD i [],true)):=by
  have hF:Fr (λ b=>b=Bd) w (w.setCell ⟨Bd,i*65+64,none⟩ (.bool true)):=(Fr.refl (λ b=>b=Bd) _).setCell (p:=⟨Bd,i*65+64,none⟩) (.inr rfl) _;obtain⟨hd,hl⟩:=h.sect hg hi;have hdisk:=h.disk.put1 (i*65+64) (.bool true);rw [jfw jaY hd (by omega) (jm4 hl _ true)] at hdisk;have e:Dv.n ⟨x.st,x.rot.set i true,x.wait,x.gone⟩=x.n:=by simp [Dv.n]
  refine⟨by rw [e];exact hF.row_some h.box h.ne1,by rw [e];exact hdisk, ?_,h.lst.fr hF (λ e=>h.ne3 e.symm),by rw [List.length_set,e];exact h.len,by rw [e];exact h.n1,by rw [e];exact h.n2,h.ok.setRot i,λ _ k hk=> ?_⟩
  . rcases h.cch with q|⟨Bc,hA,hc⟩
    . exact .inl q
    . exact .inr ⟨Bc,hA,hc.fr hF (h.ne4 hA).2.1⟩
  . rw [e] at hk
    have hrt:x.rot.length=x.n:=rfl
    by_cases he:i=k
    . subst he
      have hdl:=h.len;have h1:i<ds.length:=by omega
      have h2:i<x.rot.length:=by omega
      simp [h1,h2]
    . have:=h.has hg k hk
      simp [he]
      simpa using this
theorem jm5 (z off:Int)(mask:Nat)(h1: -9223372036854775808<=z)(h2:z<9223372036854775808)(h3: -9223372036854775808<=off)(h4:off<9223372036854775808)(h5:mask<4294967296)(h:Rq w D x Bd cd Ac cc M ds):
    Calls Tryz.prog 70 #[.pointer (some ⟨D,0,none⟩), .int .i64 z, .int .i64 off, .int .u32 (mask:Int)] w (RetSt9 (x.rot1 z off (mask:Int)) D Bd cd M Ac (.int .i64 (x.rotX z off (mask:Int))) w):=by
  have hm:=jcD z h1 h2 h
  by_cases hx:x.gone=false∧x.has z
  . rw [Dv.refX_yes hx.1 hx.2] at hm
    by_cases hok:0<=off∧off<=60∧(mask:Int)≠0
    . have e0:x.rotX z off (mask:Int)=if x.rot.getD z.toNat false=true then 91 else 0:=by
        rw [Dv.rotX,if_neg (by rw [hx.1];decide),if_neg (λ hh=>hh ⟨hx.2,hok.1,hok.2.1,hok.2.2⟩)]
      have hz:=hx.2;unfold Dv.has at hz;obtain⟨P,rfl⟩:∃i:Nat,z=(i:Int):=⟨z.toNat,by omega⟩;obtain⟨O,rfl⟩:∃i:Nat,off=(i:Int):=⟨off.toNat,by omega⟩;have hi:P<x.n:=by omega
      obtain⟨hd,hl⟩:=h.sect hx.1 hi;have c0:=h.c0;have hrc:=h.disk.sec_bad hd;simp only at hrc;have hO:O<=60:=by omega
      have hOi:¬(60:Int)<(O:Int):=by omega
      have hO0:¬(O:Int)<0:=by omega
      have hmk:((mask:Int)==0)=false:=by have:=hok.2.2;simpa using this
      have hlt:(P:Int)<(x.n:Int):=by omega
      obtain⟨n,hxn⟩:∃n,n=x.n:=⟨_,rfl⟩;rw [<-hxn] at c0 hlt;have HR:=qH h;have Hi:=qH hi;have HG:=qH hx.1;have HL:=qH hl;rw [Int.toNat_natCast] at e0
      cases hr:x.rot.getD P false
      . rw [hr] at hrc e0
        have e1:x.rotX (P:Int) (O:Int) (mask:Int)=0:=e0;have e2:x.rot1 (P:Int) (O:Int) (mask:Int)=x.rotAt P O mask:=by rw [Dv.rot1,if_pos e1];simp
        rw [e1,e2];obtain⟨b,hb⟩:∃b,b=x.st.getD P []:=⟨_,rfl⟩;have Hb:=qH hb;have e3:x.rotAt P O mask=⟨x.st.set P (Dv.spoil b O mask),x.rot.set P true,x.wait,x.gone⟩:=by rw [hb];rfl
        rw [e3];rw [<-hb] at HL;clear e0 e1 e2 e3 hz hx hok hxn h hi hd hl hb hr h1 h2 h3 h4;go_enter Tryz.func70,Tryz.ntmps70;go_wp2_with fail;refine hm.mono ?_;rintro e w1 ⟨rfl,hw1⟩;obtain rfl:w=w1:=hw1.symm;clear hm;go_wp2_with fail;go_loopw [38] (λ i wr=>∃(k:Nat) (ds':List (List UInt8 × Bool)),k<=4∧i= .int .i64 (k:Int)∧Rq wr D ⟨x.st.set P (Dv.spoilB b O mask k),x.rot,x.wait,x.gone⟩ Bd cd Ac cc M ds' ∧Fr (Blk9 D Bd M Ac) w wr) (λ i _=>4-(intOf i).toNat)
        case atStart=>
          refine⟨0,ds,by omega,rfl, ?_,Fr.refl _ _⟩;rw [Dv.spoilB_zero HL.out,Hb.out];have:x.st.set P (x.st.getD P [])=x.st:=by
            have h2:P<x.st.length:=by rw [(HR.out.ok.live HG.out).1];exact Hi.out
            rw [List.getD_eq_getElem?_getD,List.getElem?_eq_getElem h2,Option.getD_some,List.set_getElem_self]
          rw [this];exact HR.out
        case round=>
          obtain⟨k,ds',hk,rfl,hq,hf⟩:=hrel;have HF:=qH hf;have hg':(Dv.mk (x.st.set P (Dv.spoilB b O mask k)) x.rot x.wait x.gone).gone=false:=HG.out;have hyP:(Dv.mk (x.st.set P (Dv.spoilB b O mask k)) x.rot x.wait x.gone).st.getD P []=Dv.spoilB b O mask k:=by
            have h2:P<x.st.length:=by rw [(HR.out.ok.live HG.out).1];exact Hi.out
            simp [h2]
          have hiy:P<(Dv.mk (x.st.set P (Dv.spoilB b O mask k)) x.rot x.wait x.gone).n:=Hi.out;have hyst:(Dv.mk (x.st.set P (Dv.spoilB b O mask k)) x.rot x.wait x.gone).st=x.st.set P (Dv.spoilB b O mask k):=rfl;have HQ:=qH hq
          by_cases hk4:k<4
          . have hcell:=hq.disk.sec_byte (hq.sect hg' hiy).1 (j:=O+k) (by omega)
            simp only at hcell;rw [hyP,Dv.spoilB_get k (by omega)] at hcell;have hfz:=hq.disk.free (P*65 +(O+k));have hnew:=hq.byte hg' hiy (j:=O+k) (by omega) (b.getD (O+k) 0 ^^^ UInt8.ofNat (mask>>>(8*k)));rw [hyP,Dv.spoilB_set k (by omega)] at hnew;have hss:(x.st.set P (Dv.spoilB b O mask k)).set P (Dv.spoilB b O mask (k+1))=x.st.set P (Dv.spoilB b O mask (k+1)):=by simp
            simp only at hnew;rw [hss] at hnew;have HN:=qH hnew;have hki:(k:Int)<4:=by omega
            obtain⟨u,hu⟩:∃u,u=b.getD (O+k) 0:=⟨_,rfl⟩;rw [<-hu] at hcell HN;rw [bv] at hcell;clear hq hf hg' hyP hiy hyst hnew hss hu;go_wp2_with fail;go_region;rw [byte_at u mask k];go_wp2_with fail;go_roundw
            case rel=>exact⟨k+1,_,by omega,by go_num,HN.out.later (Below.drew (Below.refl _ _)),(HF.out.setCell (p:=⟨Bd,P*65 +(O+k),none⟩) (.inr (.inr (.inl rfl))) _).drew⟩
            case measure=>simp [intOf];omega
          . have hki:¬(k:Int)<4:=by omega
            obtain rfl:k=4:=by omega
            have hcell:=hq.disk.sec_bad (hq.sect hg' hiy).1;simp only at hcell;have hfz:=hq.disk.free (P*65+64);have hnew:=hq.flag hg' hiy;simp only [Dv.spoilB_four HL.out] at hnew;have HN:=qH hnew;clear hq hf hg' hyP hiy hyst hnew;go_wp2_with fail;go_ret;exact⟨rfl,HF.out.setCell (p:=⟨Bd,P*65+64,none⟩) (.inr (.inr (.inl rfl))) _,cc,Ac,_,HN.out,λ _ hb=> .inl hb⟩
      . rw [hr] at hrc e0
        have e1:x.rotX (P:Int) (O:Int) (mask:Int)=91:=e0;have e2:x.rot1 (P:Int) (O:Int) (mask:Int)=x:=by rw [Dv.rot1,if_neg (by rw [e1];decide)]
        rw [e1,e2];clear e0 e1 e2 hz hx hok hxn h hi hd hl hr h1 h2 h3 h4;go_enter Tryz.func70,Tryz.ntmps70;go_wp2_with fail;refine hm.mono ?_;rintro e w1 ⟨rfl,hw1⟩;obtain rfl:w=w1:=hw1.symm;go_wp2_with fail;go_ret;exact⟨rfl,Fr.refl _ _,cc,Ac,ds,HR.out,λ _ hb=> .inl hb⟩
    . have e1:x.rotX z off (mask:Int)=2:=by rw [Dv.rotX,if_neg (by rw [hx.1];decide),if_pos (λ hh=>hok hh.2)]
      have e2:x.rot1 z off (mask:Int)=x:=by rw [Dv.rot1,if_neg (by rw [e1];decide)]
      rw [e1,e2];clear e1 e2;have HR:=qH h
      by_cases q1:off<0
      . clear hok hx h
        go_enter Tryz.func70,Tryz.ntmps70;go_wp2_with fail;refine hm.mono ?_;rintro e w1 ⟨rfl,hw1⟩;obtain rfl:w=w1:=hw1.symm;go_wp2_with fail;go_ret;exact⟨rfl,Fr.refl _ _,cc,Ac,ds,HR.out,λ _ hb=> .inl hb⟩
      . by_cases q2:60<off
        . clear hok hx h
          go_enter Tryz.func70,Tryz.ntmps70;go_wp2_with fail;refine hm.mono ?_;rintro e w1 ⟨rfl,hw1⟩;obtain rfl:w=w1:=hw1.symm;go_wp2_with fail;go_ret;exact⟨rfl,Fr.refl _ _,cc,Ac,ds,HR.out,λ _ hb=> .inl hb⟩
        . have hmz:mask=0:=by
            have:¬(mask:Int)≠0:=λ hh=>hok ⟨by omega,by omega,hh⟩
            omega
          subst hmz;clear hok hx h;go_enter Tryz.func70,Tryz.ntmps70;go_wp2_with fail;refine hm.mono ?_;rintro e w1 ⟨rfl,hw1⟩;obtain rfl:w=w1:=hw1.symm;go_wp2_with fail;go_ret;exact⟨rfl,Fr.refl _ _,cc,Ac,ds,HR.out,λ _ hb=> .inl hb⟩
  . have e1:=Dv.refX_no hx
    have e2:x.rotX z off (mask:Int)=x.refX z:=by
      rw [Dv.rotX,Dv.refX]
      split
      . rfl
      . rename_i hg
        have hh:¬x.has z:=λ hh=>hx ⟨by simpa using hg,hh⟩
        rw [if_neg hh,if_pos (λ q=>hh q.1)]
    have e3:x.rot1 z off (mask:Int)=x:=by rw [Dv.rot1,if_neg (by rw [e2];exact e1)]
    rw [e2,e3];obtain⟨r,hr⟩:∃r,r=x.refX z:=⟨_,rfl⟩;rw [<-hr] at e1 hm ⊢;clear hr e2 e3;go_enter Tryz.func70,Tryz.ntmps70;go_wp2_with fail;refine hm.mono ?_;rintro e w1 ⟨rfl,hw1⟩;obtain rfl:w=w1:=hw1.symm;go_wp2_with fail;go_ret;exact⟨rfl,Fr.refl _ _,cc,Ac,ds,h,λ _ hb=> .inl hb⟩
end
end
section
theorem arr9 (b o c:Nat)(w:World):(Instr.arrayAt 207 (.slice (some ⟨b,o,none⟩) 64 c)).run Tryz.prog w= .ok (.pointer (some ⟨b,o,none⟩)) w:=by
  simp [Instr.arrayAt,run_underlying Tryz.underlying207]
theorem jeG {ρ:Operand->Value}{o:Oper}{x y:Operand}{w:World}{i:Nat}{l:List UInt8}(ho:o.op= .build 230 #[(0,x),(1,y)])(hx:ρ x= .int .i64 (i:Int))(hy:ρ y= .agg (cells (pad9 l)).toArray):(execOp ρ o).run Tryz.prog w= .ok (.value (.agg (wrc9 (i,l)).toArray)) w:=by
  have h:=jq1 i l w;unfold execOp;simp [ho,hx,hy,h,Result.andThen]
theorem Lst.upd {w:World}{M:Nat}{l:List (Nat × List UInt8)}(h:Lst w M l)(p:Nat × List UInt8)(hi:p.1<9223372036854775808)(hl:l.length<=100000):
    ∃w',(Instr.mapUpdate 202 (.map (some M)) (.int .i64 (p.1:Int)) (.int .i64 (l.length:Int))).run Tryz.prog w= .ok () w' ∧Fr (λ b=>b=M) w w' ∧Lst w' M (l ++ [p]):=by
  obtain⟨D,h1,h2,h3⟩:=h.ex;have hkey:keyOf Tryz.prog 3 (.int .i64 (p.1:Int))=some (.int .i64 (p.1:Int)):=keyOf_int_mk Tryz.underlying3 (jmf (by omega));obtain⟨w',hrun,hown,hg⟩:=h1.update jj0 Tryz.underlying202 (by unfold maxLen;omega) hkey (plainElem_int (a:=(l.length:Int)) Tryz.underlying3 (jmf (by omega)));obtain⟨s1,s2⟩:=Lst.step h2 h3 p;refine⟨w',hrun,⟨hg.os,hg.tape,hg.output,hg.size,λ k hk hs=>hg.block k hk (λ e=>by injection e with e;exact hs e)⟩,⟨_, ?_,s1,s2⟩⟩;rw [List.length_append];exact hown
section
variable {w:World}{D Bd cd cc M:Nat}{x:Dv}{Ac:Option Addr}{ds:List (List UInt8 × Bool)}
theorem Rq.rn (h:Rq w D x Bd cd Ac cc M ds):Rn w Ac 230 65 x.wait.length cc (x.wait.flatMap wrc9):=by
  rcases h.cch with ⟨h0,hA,hc⟩|hh
  . exact .inl ⟨by rw [h0];rfl,hA,hc,by rw [h0];rfl⟩
  . exact .inr hh
theorem jm6 {w6 w8:World}{i nw b7 c7:Nat}{l:List UInt8}(h:Rq w D x Bd cd Ac cc M ds)(hi:x.gone=false∧i<x.n∧nw=x.wait.length)(hl:l.length=64)(hF6:Fr (λ b=>b=M) w.drew w6)(hL6:Lst w6 M (x.wait ++ [(i,l)]))(hH:Fr (Bk7 D Ac) w6 w8)
    (hbx:w8.heap[D]? =some (.cells #[.slice (some ⟨Bd,0,none⟩) x.n cd, .slice (some ⟨b7,0,none⟩) (nw+1) c7, .map (some M), .bool x.gone] 204 (0,0)))
    (hrw:Rw w8 b7 230 65 (nw+1) c7 (x.wait.flatMap wrc9++wrc9 (i,l)))(ho:Ac=some ⟨b7,0,none⟩∨w.heap.size<=b7)(hsz:w.heap.size<=w6.heap.size):
    RetSt9 (x.write (i:Int) l) D Bd cd M Ac (.int .i64 0) w (.returned (.int .i64 0)) w8:=by
  have hx:x.write (i:Int) l=⟨x.st,x.rot,x.wait ++ [(i,l)],x.gone⟩:=by
    rw [Dv.write_yes hi.1 (by unfold Dv.has;omega) hl,Int.toNat_natCast]
  have hok:(x.write (i:Int) l).Ok:=h.ok.write _ _;rw [hx] at hok;rw [hx];have e6:Fr (Blk9 D Bd M Ac) w w6:=((Fr.refl _ _).drew).trans (hF6.mono λ b hb=> .inr (.inr (.inl hb)));have e8:Fr (Blk9 D Bd M Ac) w6 w8:=hH.mono λ b hb=>hb.elim .inl (λ h=> .inr (.inr (.inr h)))
  refine⟨rfl,e6.trans e8,c7,some ⟨b7,0,none⟩,ds,⟨?_, ?_, .inr ⟨b7,rfl, ?_⟩, ?_,h.len,h.n1,h.n2,hok,h.has⟩,λ b hb=> ?_⟩
  . show w8.heap[D]? =some (.cells #[.slice (some ⟨Bd,0,none⟩) x.n cd, .slice (some ⟨b7,0,none⟩) (x.wait ++ [(i,l)]).length c7, .map (some M), .bool x.gone] 204 (0,0))
    rw [List.length_append,<-hi.2.2];exact hbx
  . refine(((h.disk.later (Below.drew (Below.refl _ _))).fr hF6 h.ne3).fr hH (λ hb=> ?_))
    rcases hb with hb|⟨o,hb⟩
    . exact h.ne1 hb.symm
    . exact(h.ne4 hb).2.1 rfl
  . show Rw w8 b7 230 65 (x.wait ++ [(i,l)]).length c7 ((x.wait ++ [(i,l)]).flatMap wrc9)
    rw [List.length_append,<-hi.2.2,List.flatMap_append]
    simpa using hrw
  . refine hL6.fr hH (λ hb=> ?_)
    rcases hb with hb|⟨o,hb⟩
    . exact h.ne2 hb.symm
    . exact(h.ne4 hb).2.2 rfl
  . rcases hb with hb|hb|hb|⟨o,hb⟩
    . exact .inl (.inl hb)
    . exact .inl (.inr (.inl hb))
    . exact .inl (.inr (.inr (.inl hb)))
    . injection hb with hb
      injection hb with hb hb'
      subst hb;exact ho.imp (λ e=> .inr (.inr (.inr ⟨0,e⟩))) id
theorem jjc (z:Int)(A:Option Addr)(n c:Nat)(l:List UInt8)(h1: -9223372036854775808<=z)(h2:z<9223372036854775808)(hwl:x.wait.length<=100000)(h:Rq w D x Bd cd Ac cc M ds)(hs:Sl w 1 A n c (cells l)):
    Calls Tryz.prog 204 #[.pointer (some ⟨D,0,none⟩), .int .i64 z, .slice A n c] w (RetSt9 (x.write z l) D Bd cd M Ac (.int .i64 (x.writeX z l)) w):=by
  have hm:=jcD z h1 h2 h;have hln:l.length=n:=by have:=hs.len;rw [jaa] at this;omega
  by_cases hx:x.gone=false∧x.has z
  . rw [Dv.refX_yes hx.1 hx.2] at hm
    by_cases h64:n=64
    . rw [Dv.writeX_yes hx.1 hx.2 (by omega)]
      subst h64;have hz:=hx.2;unfold Dv.has at hz;obtain⟨i,rfl⟩:∃i:Nat,z=(i:Int):=⟨z.toNat,by omega⟩;have hi:i<x.n:=by omega
      obtain⟨b,o,rfl,hc⟩:=hs.at_ (k:=0) (by decide);have hrg:w.rangeAt b o (cells (pad9 l)):=by rw [jel hln];exact hc
      obtain⟨nw,hnw⟩:∃nw,nw=x.wait.length:=⟨_,rfl⟩;obtain⟨w6,hrun6,hF6,hL6⟩:=(h.lst.fr (S:=λ _=>False) (Fr.refl _ _).drew (λ h=>h)).upd (i,l) (by show i<_;omega) hwl;rw [<-hnw] at hrun6 hwl;have c1:w.drew.cell? ⟨D,1,none⟩=_:=h.c1;have c2:w.drew.cell? ⟨D,2,none⟩=_:=h.c2;rw [<-hnw] at c1;have rn:=h.rn;rw [<-hnw] at rn;have bx:=h.box;rw [<-hnw] at bx;have HR:=qH h;have HU:=qH hrun6;have HF6:=qH hF6;have HL6:=qH hL6;have HLen:=qH hln;have Hi:=qH (show x.gone=false∧i<x.n∧nw=x.wait.length from ⟨hx.1,hi,hnw⟩);have C1:=qH c1;have C2:=qH c2;have N2:=qH (show ¬D=M from h.ne2);have ND:=qH (show ¬Bk Ac D from λ ⟨o',e⟩=>(h.ne4 e).1 rfl);have HW6:=qH (show w.heap.size<=w6.heap.size from hF6.size);have HLT:=qH (show D<w6.heap.size from Nat.lt_of_lt_of_le (block_lt h.box) hF6.size);have hFw:Fr (λ b=>b=M) w w6:=((Fr.refl _ _).drew).trans hF6
      have C17:=qH (show w6.drew.cell? ⟨D,1,none⟩=some (.slice Ac nw cc) from hFw.cell_some c1 h.ne2);have RN7:=qH (show Rn w6.drew Ac 230 65 nw cc (x.wait.flatMap wrc9) from (rn.fr hFw (λ b hb e=>(h.ne4 hb.choose_spec).2.2 e)).later (Below.drew (Below.refl _ _)));have BX7:=qH (show w6.drew.heap[D]? =_ from hFw.row_some bx h.ne2);obtain⟨es,clock,hMap⟩:=jgR h.lst;have RG7:=qH (show w6.drew.rangeAt b o (cells (pad9 l)) from λ j v hv=>hFw.cell_some (hrg j v hv) (λ e=>by
        have:=hrg j v hv;simp only at e;rw [e] at this;simp [World.cell?,hMap] at this))
      obtain⟨i0,hi0,hz0,hz1,hz2⟩:=info_parts jqg;clear h hs hc hrg hrun6 hF6 hL6 c1 c2 rn bx hnw hln hx hz hi h1 h2 hFw hMap;go_enter Tryz.func204,Tryz.ntmps204;go_wp2_with fail;refine hm.mono ?_;rintro e w1 ⟨rfl,hw1⟩;obtain rfl:w=w1:=hw1.symm;clear hm;go_wp2_with fail;refine wp_region_held_drew (S:=λ w' =>Fr (λ b=>b=M) w.drew w') (by kernel_rfl) (Fr.refl _ _) (λ hHeld=> ?_);clear hHeld;refine tA 0 (some 17) rfl (Fr.refl _ _) ?_;refine tA 1 (some 18) rfl (Fr.refl _ _) ?_;refine tA 2 (some 19) rfl (Fr.refl _ _) ?_;refine tL 3 (some 20) (v:= ?vs3) rfl ?ys3 (Fr.refl _ _) ?rs3
      case ys3=>
        intro wq hSw
        (try dsimp only at hSw)
        have hq:=hSw.cell_some C2.out N2.out;go_simp<;>with_reducible rfl
      try simp only [Act.put,sA,sB,sC]
      refine tA 4 (some 21) rfl (Fr.refl _ _) ?_;refine tA 5 (some 22) rfl (Fr.refl _ _) ?_;refine tA 6 (some 23) rfl (Fr.refl _ _) ?_;refine tA 7 (some 24) rfl (Fr.refl _ _) ?_;refine tL 8 (some 25) (v:= ?vs8) rfl ?ys8 (Fr.refl _ _) ?rs8
      case ys8=>
        intro wq hSw
        (try dsimp only at hSw)
        have hq:=hSw.cell_some C1.out N2.out;go_simp<;>with_reducible rfl
      try simp only [Act.put,sA,sB,sC]
      refine tA 9 (some 26) rfl (Fr.refl _ _) ?_;refine rW 10 none rfl λ K hK=> ?_
      have hrun:=HU.out;go_simp;clear hrun;have hfr:=HF6.out;refine hK.out _ _ hfr (λ hHeld=> ?_);clear hK K hHeld
      try simp only [Act.put,sA,sB,sC]
      refine jac (S':=λ w' =>Fr (λ b=>b=M) w6 w') (λ w' h=>hfr.trans h) ?_;clear hfr;refine tD ?_;go_wp2_with fail;refine wp_region_held_drew (S:=λ w' =>Fr (Bk7 D Ac) w6 w') (by kernel_rfl) (Fr.drew (Fr.refl _ _)) (λ hHeld=> ?_);clear hHeld;have hHeld:Fr (Bk7 D Ac) w6 w6.drew:=Fr.drew (Fr.refl _ _);have hz_0:w6.heap.size<=w6.drew.heap.size:=Nat.le_refl _;obtain⟨v_1,hw⟩:∃v_1,v_1=w6.drew:=⟨_,rfl⟩;rw [<-hw] at hHeld hz_0 C17 RN7 BX7 RG7 ⊢;clear hw;refine tA 0 (some 27) rfl hHeld ?_;refine tA 1 (some 28) rfl hHeld ?_;refine tA 2 (some 29) rfl hHeld ?_;refine tA 3 (some 30) rfl hHeld ?_;refine tA 5 (some 32) rfl hHeld ?_;refine tA 6 (some 33) rfl hHeld ?_;refine tL 7 (some 34) (v:= ?vg7_8) rfl ?yg7_8 hHeld ?rg7_8
      case yg7_8=>
        intro wq hSw
        (try dsimp only at hSw)
        have hsa:=arr9 b o c wq;go_simp<;>with_reducible rfl
      try simp only [Act.put,sA,sB,sC]
      refine wpAnyH_ready (rs:= [4,8]) (by kernel_rfl) (by simp) ?_;refine AllReadyH.cons (o:=⟨some 31,_,_,_,_,_⟩) rfl (λ K hK=> ?_) (AllReadyH.cons (o:=⟨some 35,_,_,_,_,_⟩) rfl (λ K hK=> ?_) (AllReadyH.nil))
      . have hq:=C17.out
        go_simp;refine hK.out _ _ hHeld λ _=> ?_
        clear hK K
        try simp only [Act.put,sA,sB,sC]
        refine rW 8 (some 35) rfl λ K hK=> ?_
        refine wp_load_mid (op:=⟨some 35,_,_,_,_,_⟩) 207 (.tmp 34) rfl b o rfl (cells (pad9 l)) _ RG7.out Tryz.underlying207 rfl (jgp l) ?_;refine hK.out _ _ hHeld λ _=> ?_
        clear hK K
        try simp only [Act.put,sA,sB,sC]
        refine tL 9 (some 36) (v:=(.agg (wrc9 (i,l)).toArray)) rfl ?yg9_9 hHeld ?rg9_9
        case yg9_9=>
          intro wq hSw;exact jeG (x:= .tmp 32) (y:= .tmp 35) (i:=i) (l:=l) rfl rfl rfl
        try simp only [Act.put,sA,sB,sC]
        refine rW 10 (some 37) rfl λ K hK=> ?_
        refine wp_buildSlice (o:=⟨some 37,_,_,_,_,_⟩) 201 230 1 #[(0, .tmp 36)] rfl (wrc9 (i,l)).toArray i0 (.agg (wrc9 (0, [])).toArray) Tryz.underlying201 hi0 hz0 (by rw [hz1];decide) (by rw [hz1];decide) (by rw [hz1];exact jm1 (p:=(i,l)) _ _ rfl) ?_;have hb:=(Below.refl v_1.heap.size v_1).alloc (Nat.le_refl _) (.cells (wrc9 (i,l)).toArray 230);have hsl:=Sl.made v_1 (wrc9 (i,l)).toArray 230 65 1 (by rw [List.size_toArray,jaR]) (by decide);obtain⟨v_10,hw⟩:∃v,v=v_1.alloc (.cells (wrc9 (i,l)).toArray 230):=⟨_,rfl⟩;rw [<-hw] at hb hsl ⊢;clear hw;have hfN:=Fr.of_below (S:=Bk7 D Ac) hb;rw [List.toList_toArray] at hsl;have sb_11:=qH hsl;clear hsl;have c1_12:=qH ((Fr.of_below (S:=λ _=>False) hb).cell_some C17.out (λ h=>h));clear C17;have rn_13:=qH (RN7.out.later hb);clear RN7;have bx_14:=qH ((Fr.of_below (S:=λ _=>False) hb).row_some BX7.out (λ h=>h));clear BX7;clear hb
        have hHeld:=hHeld.trans hfN;have hz_15:=hfN.size;refine hK.out _ _ hHeld λ _=> ?_
        clear hK K hfN
        try simp only [Act.put,sA,sB,sC]
        refine rW 11 (some 38) rfl λ K hK=> ?_
        refine jb6 (o:=⟨some 38,_,_,_,_,_⟩) (.tmp 31) (.tmp 37) 201 201 rfl i0 (.agg (wrc9 (0, [])).toArray) 72 Tryz.underlying201 hi0 hz0 hz1 hz2 (by rw [show (Value.agg (wrc9 (0, [])).toArray).cells=(wrc9 (0, [])).toArray from rfl,List.size_toArray,jaR]) (by decide) rfl rn_13.out (.slice (some ⟨v_1.heap.size,0,none⟩) 1 1) 1 (wrc9 (i,l)) rfl (sb_11.out.src Tryz.underlying201 (by decide) (jdY _)) (by decide) (by unfold maxLen;omega) (by omega) ?_;intro b7 c7 w7 hrw hfb hor;have hfN:=hfb.mono (λ b hb=>(show Bk7 D Ac b from .inr hb));have bx7:=qH (hfb.row_some bx_14.out ND.out);have HRW:=qH hrw;have HOR:=qH hor;clear hrw hor hfb bx_14;have hHeld:=hHeld.trans hfN;have hz_16:=hfN.size;refine hK.out _ _ hHeld λ _=> ?_
        clear hK K hfN
        try simp only [Act.put,sA,sB,sC]
        refine tA 12 (some 39) rfl hHeld ?_;refine tA 13 (some 40) rfl hHeld ?_;refine rW 14 none rfl λ K hK=> ?_
        have q1:w7.cell? ⟨D,1,none⟩=some (.slice Ac nw cc):=by rw [cell_of_row _ _ _ _ _ _ bx7.out];rfl
        have u1:w7.frozen? ⟨D,1,none⟩=false:=frozen_of_row _ _ _ _ _ bx7.out;go_simp;clear q1 u1;have hfN:Fr (Bk7 D Ac) w7 (w7.setCell ⟨D,1,none⟩ (.slice (some ⟨b7,0,none⟩) (nw+1) c7)):=(Fr.refl (Bk7 D Ac) _).setCell (p:=⟨D,1,none⟩) (.inr (.inl rfl)) _;have hbx:=heap_setCell_same w7 D 1 _ _ (.slice (some ⟨b7,0,none⟩) (nw+1) c7) bx7.out;have hrw8:=HRW.out.fr ((Fr.refl (λ b=>b=D) _).setCell (p:=⟨D,1,none⟩) (.inr rfl) (.slice (some ⟨b7,0,none⟩) (nw+1) c7)) (by
          show ¬b7=D
          rcases HOR.out with h|h
          . exact λ e=>ND.out ⟨0,by rw [<-e];exact h⟩
          . have:=HLT.out;have:=(show w6.heap.size<=v_10.heap.size from by omega);omega)
        obtain⟨w8,hw⟩:∃v,v=w7.setCell ⟨D,1,none⟩ (.slice (some ⟨b7,0,none⟩) (nw+1) c7):=⟨_,rfl⟩;rw [<-hw] at hfN hbx hrw8 ⊢;clear hw;have BX8:=qH hbx;have RW8:=qH hrw8;have HO8:=qH (show Ac=some ⟨b7,0,none⟩∨w.heap.size<=b7 from HOR.out.imp id (λ e=>by have:=HW6.out;omega));clear hbx hrw8 bx7 HRW;have hHeld:=hHeld.trans hfN;have hz_19:=hfN.size;refine hK.out _ _ hHeld λ _=> ?_
        clear hK K hfN
        try simp only [Act.put]
        refine tD ?_;have HH:=qH hHeld;clear hHeld;go_wp2_with fail;go_ret;exact jm6 HR.out Hi.out HLen.out HF6.out HL6.out HH.out BX8.out RW8.out HO8.out HW6.out
      . refine wp_load_mid (op:=⟨some 35,_,_,_,_,_⟩) 207 (.tmp 34) rfl b o rfl (cells (pad9 l)) _ RG7.out Tryz.underlying207 rfl (jgp l) ?_
        refine hK.out _ _ hHeld λ _=> ?_
        clear hK K
        try simp only [Act.put,sA,sB,sC]
        refine tL 9 (some 36) (v:=(.agg (wrc9 (i,l)).toArray)) rfl ?yg9_20 hHeld ?rg9_20
        case yg9_20=>
          intro wq hSw;exact jeG (x:= .tmp 32) (y:= .tmp 35) (i:=i) (l:=l) rfl rfl rfl
        try simp only [Act.put,sA,sB,sC]
        refine wpAnyH_ready (rs:= [4,10]) (by kernel_rfl) (by simp) ?_;refine AllReadyH.cons (o:=⟨some 31,_,_,_,_,_⟩) rfl (λ K hK=> ?_) (AllReadyH.cons (o:=⟨some 37,_,_,_,_,_⟩) rfl (λ K hK=> ?_) (AllReadyH.nil))
        . have hq:=C17.out
          go_simp;refine hK.out _ _ hHeld λ _=> ?_
          clear hK K
          try simp only [Act.put,sA,sB,sC]
          refine rW 10 (some 37) rfl λ K hK=> ?_
          refine wp_buildSlice (o:=⟨some 37,_,_,_,_,_⟩) 201 230 1 #[(0, .tmp 36)] rfl (wrc9 (i,l)).toArray i0 (.agg (wrc9 (0, [])).toArray) Tryz.underlying201 hi0 hz0 (by rw [hz1];decide) (by rw [hz1];decide) (by rw [hz1];exact jm1 (p:=(i,l)) _ _ rfl) ?_;have hb:=(Below.refl v_1.heap.size v_1).alloc (Nat.le_refl _) (.cells (wrc9 (i,l)).toArray 230);have hsl:=Sl.made v_1 (wrc9 (i,l)).toArray 230 65 1 (by rw [List.size_toArray,jaR]) (by decide);obtain⟨v_21,hw⟩:∃v,v=v_1.alloc (.cells (wrc9 (i,l)).toArray 230):=⟨_,rfl⟩;rw [<-hw] at hb hsl ⊢;clear hw;have hfN:=Fr.of_below (S:=Bk7 D Ac) hb;rw [List.toList_toArray] at hsl;have sb_22:=qH hsl;clear hsl;have c1_23:=qH ((Fr.of_below (S:=λ _=>False) hb).cell_some C17.out (λ h=>h));clear C17;have rn_24:=qH (RN7.out.later hb);clear RN7;have bx_25:=qH ((Fr.of_below (S:=λ _=>False) hb).row_some BX7.out (λ h=>h));clear BX7;clear hb
          have hHeld:=hHeld.trans hfN;have hz_26:=hfN.size;refine hK.out _ _ hHeld λ _=> ?_
          clear hK K hfN
          try simp only [Act.put,sA,sB,sC]
          refine rW 11 (some 38) rfl λ K hK=> ?_
          refine jb6 (o:=⟨some 38,_,_,_,_,_⟩) (.tmp 31) (.tmp 37) 201 201 rfl i0 (.agg (wrc9 (0, [])).toArray) 72 Tryz.underlying201 hi0 hz0 hz1 hz2 (by rw [show (Value.agg (wrc9 (0, [])).toArray).cells=(wrc9 (0, [])).toArray from rfl,List.size_toArray,jaR]) (by decide) rfl rn_24.out (.slice (some ⟨v_1.heap.size,0,none⟩) 1 1) 1 (wrc9 (i,l)) rfl (sb_22.out.src Tryz.underlying201 (by decide) (jdY _)) (by decide) (by unfold maxLen;omega) (by omega) ?_;intro b7 c7 w7 hrw hfb hor;have hfN:=hfb.mono (λ b hb=>(show Bk7 D Ac b from .inr hb));have bx7:=qH (hfb.row_some bx_25.out ND.out);have HRW:=qH hrw;have HOR:=qH hor;clear hrw hor hfb bx_25;have hHeld:=hHeld.trans hfN;have hz_27:=hfN.size;refine hK.out _ _ hHeld λ _=> ?_
          clear hK K hfN
          try simp only [Act.put,sA,sB,sC]
          refine tA 12 (some 39) rfl hHeld ?_;refine tA 13 (some 40) rfl hHeld ?_;refine rW 14 none rfl λ K hK=> ?_
          have q1:w7.cell? ⟨D,1,none⟩=some (.slice Ac nw cc):=by rw [cell_of_row _ _ _ _ _ _ bx7.out];rfl
          have u1:w7.frozen? ⟨D,1,none⟩=false:=frozen_of_row _ _ _ _ _ bx7.out;go_simp;clear q1 u1;have hfN:Fr (Bk7 D Ac) w7 (w7.setCell ⟨D,1,none⟩ (.slice (some ⟨b7,0,none⟩) (nw+1) c7)):=(Fr.refl (Bk7 D Ac) _).setCell (p:=⟨D,1,none⟩) (.inr (.inl rfl)) _;have hbx:=heap_setCell_same w7 D 1 _ _ (.slice (some ⟨b7,0,none⟩) (nw+1) c7) bx7.out;have hrw8:=HRW.out.fr ((Fr.refl (λ b=>b=D) _).setCell (p:=⟨D,1,none⟩) (.inr rfl) (.slice (some ⟨b7,0,none⟩) (nw+1) c7)) (by
            show ¬b7=D
            rcases HOR.out with h|h
            . exact λ e=>ND.out ⟨0,by rw [<-e];exact h⟩
            . have:=HLT.out;have:=(show w6.heap.size<=v_21.heap.size from by omega);omega)
          obtain⟨w8,hw⟩:∃v,v=w7.setCell ⟨D,1,none⟩ (.slice (some ⟨b7,0,none⟩) (nw+1) c7):=⟨_,rfl⟩;rw [<-hw] at hfN hbx hrw8 ⊢;clear hw;have BX8:=qH hbx;have RW8:=qH hrw8;have HO8:=qH (show Ac=some ⟨b7,0,none⟩∨w.heap.size<=b7 from HOR.out.imp id (λ e=>by have:=HW6.out;omega));clear hbx hrw8 bx7 HRW;have hHeld:=hHeld.trans hfN;have hz_30:=hfN.size;refine hK.out _ _ hHeld λ _=> ?_
          clear hK K hfN
          try simp only [Act.put]
          refine tD ?_;have HH:=qH hHeld;clear hHeld;go_wp2_with fail;go_ret;exact jm6 HR.out Hi.out HLen.out HF6.out HL6.out HH.out BX8.out RW8.out HO8.out HW6.out
        . refine wp_buildSlice (o:=⟨some 37,_,_,_,_,_⟩) 201 230 1 #[(0, .tmp 36)] rfl (wrc9 (i,l)).toArray i0 (.agg (wrc9 (0, [])).toArray) Tryz.underlying201 hi0 hz0 (by rw [hz1];decide) (by rw [hz1];decide) (by rw [hz1];exact jm1 (p:=(i,l)) _ _ rfl) ?_
          have hb:=(Below.refl v_1.heap.size v_1).alloc (Nat.le_refl _) (.cells (wrc9 (i,l)).toArray 230);have hsl:=Sl.made v_1 (wrc9 (i,l)).toArray 230 65 1 (by rw [List.size_toArray,jaR]) (by decide);obtain⟨v_31,hw⟩:∃v,v=v_1.alloc (.cells (wrc9 (i,l)).toArray 230):=⟨_,rfl⟩;rw [<-hw] at hb hsl ⊢;clear hw;have hfN:=Fr.of_below (S:=Bk7 D Ac) hb;rw [List.toList_toArray] at hsl;have sb_32:=qH hsl;clear hsl;have c1_33:=qH ((Fr.of_below (S:=λ _=>False) hb).cell_some C17.out (λ h=>h));clear C17;have rn_34:=qH (RN7.out.later hb);clear RN7;have bx_35:=qH ((Fr.of_below (S:=λ _=>False) hb).row_some BX7.out (λ h=>h));clear BX7;clear hb;have hHeld:=hHeld.trans hfN;have hz_36:=hfN.size;refine hK.out _ _ hHeld λ _=> ?_
          clear hK K hfN
          try simp only [Act.put,sA,sB,sC]
          refine rW 4 (some 31) rfl λ K hK=> ?_
          have hq:=c1_33.out;go_simp;refine hK.out _ _ hHeld λ _=> ?_
          clear hK K
          try simp only [Act.put,sA,sB,sC]
          refine rW 11 (some 38) rfl λ K hK=> ?_
          refine jb6 (o:=⟨some 38,_,_,_,_,_⟩) (.tmp 31) (.tmp 37) 201 201 rfl i0 (.agg (wrc9 (0, [])).toArray) 72 Tryz.underlying201 hi0 hz0 hz1 hz2 (by rw [show (Value.agg (wrc9 (0, [])).toArray).cells=(wrc9 (0, [])).toArray from rfl,List.size_toArray,jaR]) (by decide) rfl rn_34.out (.slice (some ⟨v_1.heap.size,0,none⟩) 1 1) 1 (wrc9 (i,l)) rfl (sb_32.out.src Tryz.underlying201 (by decide) (jdY _)) (by decide) (by unfold maxLen;omega) (by omega) ?_;intro b7 c7 w7 hrw hfb hor;have hfN:=hfb.mono (λ b hb=>(show Bk7 D Ac b from .inr hb));have bx7:=qH (hfb.row_some bx_35.out ND.out);have HRW:=qH hrw;have HOR:=qH hor;clear hrw hor hfb bx_35;have hHeld:=hHeld.trans hfN;have hz_37:=hfN.size;refine hK.out _ _ hHeld λ _=> ?_
          clear hK K hfN
          try simp only [Act.put,sA,sB,sC]
          refine tA 12 (some 39) rfl hHeld ?_;refine tA 13 (some 40) rfl hHeld ?_;refine rW 14 none rfl λ K hK=> ?_
          have q1:w7.cell? ⟨D,1,none⟩=some (.slice Ac nw cc):=by rw [cell_of_row _ _ _ _ _ _ bx7.out];rfl
          have u1:w7.frozen? ⟨D,1,none⟩=false:=frozen_of_row _ _ _ _ _ bx7.out;go_simp;clear q1 u1;have hfN:Fr (Bk7 D Ac) w7 (w7.setCell ⟨D,1,none⟩ (.slice (some ⟨b7,0,none⟩) (nw+1) c7)):=(Fr.refl (Bk7 D Ac) _).setCell (p:=⟨D,1,none⟩) (.inr (.inl rfl)) _;have hbx:=heap_setCell_same w7 D 1 _ _ (.slice (some ⟨b7,0,none⟩) (nw+1) c7) bx7.out;have hrw8:=HRW.out.fr ((Fr.refl (λ b=>b=D) _).setCell (p:=⟨D,1,none⟩) (.inr rfl) (.slice (some ⟨b7,0,none⟩) (nw+1) c7)) (by
            show ¬b7=D
            rcases HOR.out with h|h
            . exact λ e=>ND.out ⟨0,by rw [<-e];exact h⟩
            . have:=HLT.out;have:=(show w6.heap.size<=v_31.heap.size from by omega);omega)
          obtain⟨w8,hw⟩:∃v,v=w7.setCell ⟨D,1,none⟩ (.slice (some ⟨b7,0,none⟩) (nw+1) c7):=⟨_,rfl⟩;rw [<-hw] at hfN hbx hrw8 ⊢;clear hw;have BX8:=qH hbx;have RW8:=qH hrw8;have HO8:=qH (show Ac=some ⟨b7,0,none⟩∨w.heap.size<=b7 from HOR.out.imp id (λ e=>by have:=HW6.out;omega));clear hbx hrw8 bx7 HRW;have hHeld:=hHeld.trans hfN;have hz_40:=hfN.size;refine hK.out _ _ hHeld λ _=> ?_
          clear hK K hfN
          try simp only [Act.put]
          refine tD ?_;have HH:=qH hHeld;clear hHeld;go_wp2_with fail;go_ret;exact jm6 HR.out Hi.out HLen.out HF6.out HL6.out HH.out BX8.out RW8.out HO8.out HW6.out
    . have e1:x.writeX z l=2:=by rw [Dv.writeX,if_neg (by rw [hx.1];decide),if_neg (λ hh=>h64 (by omega))]
      have e2:x.write z l=x:=by rw [Dv.write,if_neg (by rw [hx.1];decide),if_neg (λ hh=>h64 (by omega))]
      rw [e1,e2];have hni:¬(n:Int)=64:=by omega
      clear e1 e2;go_enter Tryz.func204,Tryz.ntmps204;go_wp2_with fail;refine hm.mono ?_;rintro e w1 ⟨rfl,hw1⟩;obtain rfl:w=w1:=hw1.symm;go_wp2_with fail;go_ret;exact⟨rfl,Fr.refl _ _,cc,Ac,ds,h,λ _ hb=> .inl hb⟩
  . have e1:=Dv.refX_no hx
    have e2:x.writeX z l=x.refX z:=by
      rw [Dv.writeX,Dv.refX]
      split
      . rfl
      . rename_i hg
        have hh:¬x.has z:=λ hh=>hx ⟨by simpa using hg,hh⟩
        rw [if_neg hh,if_neg (λ q=>hh q.1)]
    have e3:x.write z l=x:=by
      rw [Dv.write]
      split
      . rfl
      . rename_i hg
        rw [if_neg (λ q=>hx ⟨by simpa using hg,q.1⟩)]
    rw [e2,e3];obtain⟨r,hr⟩:∃r,r=x.refX z:=⟨_,rfl⟩;rw [<-hr] at e1 hm ⊢;clear hr e2 e3;go_enter Tryz.func204,Tryz.ntmps204;go_wp2_with fail;refine hm.mono ?_;rintro e w1 ⟨rfl,hw1⟩;obtain rfl:w=w1:=hw1.symm;go_wp2_with fail;go_ret;exact⟨rfl,Fr.refl _ _,cc,Ac,ds,h,λ _ hb=> .inl hb⟩
end
end
section
section
variable {w:World}{D Bd cd cc M:Nat}{x:Dv}{Ac:Option Addr}{ds:List (List UInt8 × Bool)}
theorem infoS9:(Tryz.prog.info? 209).map (λ i=>(i.zero,i.size,i.bytes))=some (some (.agg (sec9 nil9).toArray),65,65):=by kernel_rfl
theorem jq3 {b n c:Nat}{ds:List (List UInt8 × Bool)}(h:Rw w b 209 65 n c (ds.flatMap sec9))(h1:1<=n)(h2:n<=600):
    Calls Tryz.prog 124 #[.slice (some ⟨b,0,none⟩) n c] w λ e w' =>∃b' c',e= .returned (.slice (some ⟨b',0,none⟩) n c')∧Rw w' b' 209 65 n c' (ds.flatMap sec9)∧Below w.heap.size w w' ∧w.heap.size<=b':=by
  have hq:(binOp .eql 200 (.slice (some ⟨b,0,none⟩) n c) (.slice none 0 0)).run Tryz.prog w= .ok (.bool false) w:=Lib.run_eql_slice_nil w _ _ (some ⟨b,0,none⟩) n c 0 0 Tryz.underlying200;have HR:=qH h;obtain⟨i0,hi,hz0,hz1,hz2⟩:=info_parts infoS9;have Hi:=qH hi;have Hz0:=qH hz0;have Hz1:=qH hz1;have Hz2:=qH hz2;clear h hi hz0 hz1 hz2;go_enter Tryz.func124,Tryz.ntmps124
  go_wp2_with (at_builtin;refine jcM (T:=209) (size:=65) (n:=0) (c:=0) (xs:= []) rfl (.tmp 5) (.tmp 6) 200 200 rfl i0 (.agg (sec9 nil9).toArray) 65 Tryz.underlying200 Hi.out Hz0.out Hz1.out Hz2.out (by rw [show (Value.agg (sec9 nil9).toArray).cells=(sec9 nil9).toArray from rfl,List.size_toArray,jaY]) (by decide) rfl (.inr ⟨w.heap.size,rfl,Rw.new w #[] _ 65 0 rfl (by decide)⟩) (.slice (some ⟨b,0,none⟩) n c) n (ds.flatMap sec9) rfl ((HR.out.later ((Below.refl _ _).alloc (Nat.le_refl _) _)).sl.src Tryz.underlying200 (by decide) (jkm jg4 ds)) (by omega) ?pb ?pc ?pd)
  case pb=>unfold maxLen;omega
  case pc=>omega
  intro b2 c2 w2 hr2 hf2 ho2;have HB:=qH (show Below w.heap.size w w2 from ((Below.refl _ _).alloc (Nat.le_refl _) _).trans (hf2.below (by simp) (λ k hk=>by
    obtain⟨o,hk⟩:=hk;injection hk with hk
    injection hk with hk _
    omega)))
  have HR2:=qH hr2;have HG:=qH (show w.heap.size<=b2 from by
    omega)
  clear hr2 hf2 ho2;go_wp2_with fail;go_ret;exact⟨b2,c2,rfl,HR2.out,HB.out,HG.out⟩
def RetW9 (n:Nat)(xs:List Value)(w:World)(e:Ending)(w':World):Prop:=∃A' c',e= .returned (.slice A' n c')∧Rn w' A' 230 65 n c' xs∧Below w.heap.size w w' ∧∀b,Bk A' b->w.heap.size<=b
theorem jq4 {A:Option Addr}{n c:Nat}{ps:List (Nat × List UInt8)}(h:Rn w A 230 65 n c (ps.flatMap wrc9))(h2:n<=100000):
    Calls Tryz.prog 125 #[.slice A n c] w (RetW9 n (ps.flatMap wrc9) w):=by
  rcases h with ⟨rfl,rfl,rfl,h0⟩|⟨b,rfl,h⟩
  . rw [h0]
    have hq:(binOp .eql 201 (.slice none 0 0) (.slice none 0 0)).run Tryz.prog w= .ok (.bool true) w:=Lib.run_eql_slice_nil w _ _ none 0 0 0 0 Tryz.underlying201;clear h0;go_enter Tryz.func125,Tryz.ntmps125;go_wp2_with fail;go_ret;exact⟨none,0,rfl, .inl ⟨rfl,rfl,rfl,rfl⟩,Below.refl _ _,λ b hb=>by obtain⟨o,hb⟩:=hb;cases hb⟩
  . have hq:(binOp .eql 201 (.slice (some ⟨b,0,none⟩) n c) (.slice none 0 0)).run Tryz.prog w= .ok (.bool false) w:=Lib.run_eql_slice_nil w _ _ (some ⟨b,0,none⟩) n c 0 0 Tryz.underlying201
    have HR:=qH h;obtain⟨i0,hi,hz0,hz1,hz2⟩:=info_parts jqg;have Hi:=qH hi;have Hz0:=qH hz0;have Hz1:=qH hz1;have Hz2:=qH hz2;clear h hi hz0 hz1 hz2
    by_cases hn:n=0
    . subst hn
      have hx0:ps.flatMap wrc9= []:=List.eq_nil_of_length_eq_zero (by have:=HR.out.len;omega);rw [hx0] at HR ⊢;clear hx0;go_enter Tryz.func125,Tryz.ntmps125;go_wp2_with (at_builtin;refine jeO (T:=230) (size:=65) (n:=0) (c:=0) rfl (.tmp 5) (.tmp 6) 201 201 rfl i0 Tryz.underlying201 Hi.out Hz1.out rfl (Nat.le_refl _) (.slice (some ⟨b,0,none⟩) 0 c) rfl ((HR.out.later ((Below.refl _ _).alloc (Nat.le_refl _) _)).sl.src Tryz.underlying201 (by decide) (λ u hu=>by cases hu)) ?pd);go_wp2_with fail;go_ret;exact⟨_,0,rfl, .inr ⟨w.heap.size,rfl,Rw.new w #[] _ 65 0 rfl (by decide)⟩,(Below.refl _ _).alloc (Nat.le_refl _) _,λ b hb=>by
        obtain⟨o,hb⟩:=hb;injection hb with hb
        injection hb with hb _
        omega⟩
    . go_enter Tryz.func125,Tryz.ntmps125
      go_wp2_with (at_builtin;refine jcM (T:=230) (size:=65) (n:=0) (c:=0) (xs:= []) rfl (.tmp 5) (.tmp 6) 201 201 rfl i0 (.agg (wrc9 (0, [])).toArray) 72 Tryz.underlying201 Hi.out Hz0.out Hz1.out Hz2.out (by rw [show (Value.agg (wrc9 (0, [])).toArray).cells=(wrc9 (0, [])).toArray from rfl,List.size_toArray,jaR]) (by decide) rfl (.inr ⟨w.heap.size,rfl,Rw.new w #[] _ 65 0 rfl (by decide)⟩) (.slice (some ⟨b,0,none⟩) n c) n (ps.flatMap wrc9) rfl ((HR.out.later ((Below.refl _ _).alloc (Nat.le_refl _) _)).sl.src Tryz.underlying201 (by decide) (jkm jdY ps)) (by omega) ?qb ?qc ?qd)
      case qb=>unfold maxLen;omega
      case qc=>omega
      intro b2 c2 w2 hr2 hf2 ho2;have HB:=qH (show Below w.heap.size w w2 from ((Below.refl _ _).alloc (Nat.le_refl _) _).trans (hf2.below (by simp) (λ k hk=>by
        obtain⟨o,hk⟩:=hk;injection hk with hk
        injection hk with hk _
        omega)))
      have HR2:=qH hr2;have HG:=qH (show w.heap.size<=b2 from by
        omega)
      clear hr2 hf2 ho2;go_wp2_with fail;go_ret;exact⟨_,c2,rfl, .inr ⟨b2,rfl,HR2.out⟩,HB.out,λ k hk=>by
        obtain⟨o,hk⟩:=hk;injection hk with hk
        injection hk with hk _
        have:=HG.out;omega⟩
theorem jq5 {l:List (Nat × List UInt8)}(h:Lst w M l):
    Calls Tryz.prog 126 #[.map (some M)] w λ e w' =>e= .returned (.map (some w.heap.size))∧Lst w' w.heap.size l∧Below w.heap.size w w':=by
  obtain⟨D,⟨es,clock,hb,F,hs,hD⟩,h2,h3⟩:=h.ex;have hq:=λ w=>run_eql_map_nil_sl (P:=Tryz.prog) w 202 _ _ (some M) Tryz.underlying202
  have H2:=qH h2;have H3:=qH h3;have HS:=qH hs;have HD:=qH hD;have HF:=qH F;have HB:=qH hb;clear h2 h3 hs hD F hb h;go_enter Tryz.func126,Tryz.ntmps126;go_wp2_with fail;rw [run_callFunc_extern Tryz.func184 (by kernel_rfl) (by kernel_rfl) (by kernel_rfl) (e:=Extern.MapsClone.clone) (by kernel_rfl),run_maps_clone_sl w 202 HB.out];simp only [Result.andThen];rw [Oper.upon_value];go_wp2_with fail;rw [run_typeAssert_map_sl _ 202 20 _ _ _ Tryz.underlying202];simp only [Result.andThen];rw [Oper.upon_value];go_wp2_with fail;go_ret;exact⟨rfl,⟨D,⟨es,clock,heap_alloc_new w _,HF.out,HS.out,HD.out⟩,H2.out,H3.out⟩,(Below.refl _ _).alloc (Nat.le_refl _) _⟩
def jph (x:Dv)(w:World)(e:Ending)(w':World):Prop:=∃D' Bd' cd' Ac' cc' M' ds',e= .returned (.pointer (some ⟨D',0,none⟩))∧Rq w' D' x Bd' cd' Ac' cc' M' ds' ∧Below w.heap.size w w' ∧∀b,Blk9 D' Bd' M' Ac' b->w.heap.size<=b
theorem jle (hwl:x.wait.length<=100000)(h:Rq w D x Bd cd Ac cc M ds):Calls Tryz.prog 79 #[.pointer (some ⟨D,0,none⟩)] w (jph x w):=by
  have HR:=qH h;have C0:=qH (show w.drew.cell? ⟨D,0,none⟩=_ from h.c0);have C1:=qH (show w.drew.cell? ⟨D,1,none⟩=_ from h.c1);have C2:=qH (show w.drew.cell? ⟨D,2,none⟩=_ from h.c2);have C3:=qH (show w.drew.cell? ⟨D,3,none⟩=_ from h.c3);have HX1:=qH (h.disk.later (Below.drew (Below.refl _ _)));have RC:=qH (h.rn.later (Below.drew (Below.refl _ _)));have LM:=qH (h.lst.fr (S:=λ _=>False) (Fr.refl _ _).drew (λ h=>h));have HN1:=qH h.n1;have HN2:=qH h.n2;have HW:=qH hwl;obtain⟨n,hn⟩:∃n,n=x.n:=⟨_,rfl⟩;obtain⟨nw,hnw⟩:∃nw,nw=x.wait.length:=⟨_,rfl⟩;obtain⟨g,hgg⟩:∃g,g=x.gone:=⟨_,rfl⟩;rw [<-hn] at C0 HX1 HN1 HN2;rw [<-hnw] at C1 RC HW;rw [<-hgg] at C3;have Hn:=qH hn;have Hnw:=qH hnw;have Hgg:=qH hgg;clear hn hnw hgg hwl h;go_enter Tryz.func79,Tryz.ntmps79;go_wp2_with fail;refine wp_region_held_drew (S:=λ w' =>Fr (λ _=>False) w.drew w') (by kernel_rfl) (Fr.refl _ _) (λ hHeld=> ?_);clear hHeld
  refine tA 0 (some 5) rfl (Fr.refl _ _) ?_;refine tA 1 (some 6) rfl (Fr.refl _ _) ?_;refine tA 2 (some 7) rfl (Fr.refl _ _) ?_;refine tL 3 (some 8) (v:= ?vs3) rfl ?ys3 (Fr.refl _ _) ?rs3
  case ys3=>
    intro wq hSw
    (try dsimp only at hSw)
    have hq:=hSw.cell_some C0.out (λ h=>h);go_simp<;>with_reducible rfl
  try simp only [Act.put,sA,sB,sC]
  refine tA 5 (some 10) rfl (Fr.refl _ _) ?_;refine tA 6 (some 11) rfl (Fr.refl _ _) ?_;refine tA 7 (some 12) rfl (Fr.refl _ _) ?_;refine tL 8 (some 13) (v:= ?vs8) rfl ?ys8 (Fr.refl _ _) ?rs8
  case ys8=>
    intro wq hSw
    (try dsimp only at hSw)
    have hq:=hSw.cell_some C1.out (λ h=>h);go_simp<;>with_reducible rfl
  try simp only [Act.put,sA,sB,sC]
  refine tA 10 (some 15) rfl (Fr.refl _ _) ?_;refine tA 11 (some 16) rfl (Fr.refl _ _) ?_;refine tA 12 (some 17) rfl (Fr.refl _ _) ?_;refine tL 13 (some 18) (v:= ?vs13) rfl ?ys13 (Fr.refl _ _) ?rs13
  case ys13=>
    intro wq hSw
    (try dsimp only at hSw)
    have hq:=hSw.cell_some C2.out (λ h=>h);go_simp<;>with_reducible rfl
  try simp only [Act.put,sA,sB,sC]
  refine tA 15 (some 20) rfl (Fr.refl _ _) ?_;refine tA 16 (some 21) rfl (Fr.refl _ _) ?_;refine tA 17 (some 22) rfl (Fr.refl _ _) ?_;refine tL 18 (some 23) (v:= ?vs18) rfl ?ys18 (Fr.refl _ _) ?rs18
  case ys18=>
    intro wq hSw
    (try dsimp only at hSw)
    have hq:=hSw.cell_some C3.out (λ h=>h);go_simp<;>with_reducible rfl
  try simp only [Act.put,sA,sB,sC]
  refine rW 4 (some 9) rfl λ K hK=> ?_
  go_simp;refine(jq3 HX1.out HN1.out HN2.out).mono ?_;rintro e w2 ⟨b2,c2,rfl,hr,hb,hge⟩;have hfr:=Fr.of_below (S:=λ _=>False) hb;have Fw2:=qH hfr;have R2:=qH hr;have G2:=qH hge;have RC:=qH (RC.out.later hb);have LM:=qH (LM.out.fr hfr (λ h=>h));clear hr hge hb;have C0:=qH (hfr.cell_some C0.out (λ h=>h));have C1:=qH (hfr.cell_some C1.out (λ h=>h));have C2:=qH (hfr.cell_some C2.out (λ h=>h));have C3:=qH (hfr.cell_some C3.out (λ h=>h));go_wp2_with fail;refine hK.out _ _ hfr (λ hHeld=> ?_);clear hK K hHeld
  try simp only [Act.put,sA,sB,sC]
  refine jac (S':=λ w' =>Fr (λ _=>False) w2 w') (λ w' h=>hfr.trans h) ?_;clear hfr;refine rW 9 (some 14) rfl λ K hK=> ?_
  go_simp;refine(jq4 RC.out HW.out).mono ?_;rintro e w3 ⟨A3,c3,rfl,hr,hb,hge⟩;have hfr:=Fr.of_below (S:=λ _=>False) hb;have Fw3:=qH hfr;have R2:=qH (R2.out.later hb);have R3:=qH hr;have G3:=qH hge;have LM:=qH (LM.out.fr hfr (λ h=>h));have S3:=qH hb.size;clear hr hge hb;have C0:=qH (hfr.cell_some C0.out (λ h=>h));have C1:=qH (hfr.cell_some C1.out (λ h=>h));have C2:=qH (hfr.cell_some C2.out (λ h=>h));have C3:=qH (hfr.cell_some C3.out (λ h=>h));go_wp2_with fail;refine hK.out _ _ hfr (λ hHeld=> ?_);clear hK K hHeld
  try simp only [Act.put,sA,sB,sC]
  refine jac (S':=λ w' =>Fr (λ _=>False) w3 w') (λ w' h=>hfr.trans h) ?_;clear hfr;refine rW 14 (some 19) rfl λ K hK=> ?_
  go_simp;refine(jq5 LM.out).mono ?_;rintro e w4 ⟨rfl,hr,hb⟩;have hfr:=Fr.of_below (S:=λ _=>False) hb;have Fw4:=qH hfr;have R2:=qH (R2.out.later hb);have R3:=qH (R3.out.later hb);have L4:=qH hr;clear hr hb;have C0:=qH (hfr.cell_some C0.out (λ h=>h));have C1:=qH (hfr.cell_some C1.out (λ h=>h));have C2:=qH (hfr.cell_some C2.out (λ h=>h));have C3:=qH (hfr.cell_some C3.out (λ h=>h));go_wp2_with fail;refine hK.out _ _ hfr (λ hHeld=> ?_);clear hK K hHeld
  try simp only [Act.put,sA,sB,sC]
  refine jac (S':=λ w' =>Fr (λ _=>False) w4 w') (λ w' h=>hfr.trans h) ?_;clear hfr;refine tA 19 (some 24) rfl (Fr.refl _ _) ?_;refine rW 20 (some 25) rfl λ K hK=> ?_
  go_simp;have hb:Below w4.heap.size w4 (w4.alloc (.cells #[.slice (some ⟨b2,0,none⟩) n c2, .slice A3 nw c3, .map (some w3.heap.size), .bool g] 204)):=(Below.refl _ _).alloc (Nat.le_refl _) _;have hx:=heap_alloc_new w4 (.cells #[.slice (some ⟨b2,0,none⟩) n c2, .slice A3 nw c3, .map (some w3.heap.size), .bool g] 204);obtain⟨w5,hw⟩:∃v,v=w4.alloc (.cells #[.slice (some ⟨b2,0,none⟩) n c2, .slice A3 nw c3, .map (some w3.heap.size), .bool g] 204):=⟨_,rfl⟩;rw [<-hw] at hb hx ⊢;clear hw;have hfr:=Fr.of_below (S:=λ _=>False) hb;have Fw5:=qH hfr;have R2:=qH (R2.out.later hb);have R3:=qH (R3.out.later hb);have L4:=qH (L4.out.fr hfr (λ h=>h));have X5:=qH hx;clear hx hb;have C0:=qH (hfr.cell_some C0.out (λ h=>h));have C1:=qH (hfr.cell_some C1.out (λ h=>h));have C2:=qH (hfr.cell_some C2.out (λ h=>h));have C3:=qH (hfr.cell_some C3.out (λ h=>h));refine hK.out _ _ hfr (λ hHeld=> ?_);clear hK K hHeld
  try simp only [Act.put,sA,sB,sC]
  refine jac (S':=λ w' =>Fr (λ _=>False) w5 w') (λ w' h=>hfr.trans h) ?_;clear hfr;refine tA 21 (some 2) rfl (Fr.refl _ _) ?_;refine tD ?_;go_wp2_with fail;go_ret;have hr:=HR.out;have hx5:=X5.out;have hr2:=R2.out;have hr3:=R3.out;rw [Hn.out,Hnw.out,Hgg.out] at hx5;rw [Hn.out] at hr2;rw [Hnw.out] at hr3;have B:=(((Fw2.out.trans Fw3.out).trans Fw4.out).trans Fw5.out);have B0:Below w.heap.size w.drew w5:=B.below (Nat.le_refl _) (λ _ h=>h.elim);refine⟨_,b2,c2,A3,c3,_,ds,rfl,⟨hx5,hr2, ?_,L4.out,hr.len,hr.n1,hr.n2,hr.ok,hr.has⟩,(Below.drew (Below.refl _ _)).trans B0,λ b hb=> ?_⟩
  . rcases hr3 with ⟨q1,q2,q3,q4⟩|q
    . exact .inl ⟨List.eq_nil_of_length_eq_zero q1,q2,q3⟩
    . exact .inr q
  . have s2:=Fw2.out.size
    have s3:=Fw3.out.size;have s4:=Fw4.out.size;have g2:=G2.out;have g3:=G3.out;simp only [World.drew] at s2 g2
    rcases hb with hb|hb|hb|hb
    . omega
    . omega
    . omega
    . have:=g3 b hb
      omega
end
end
section
theorem RetSt9.mut {w w':World}{S:Nat->Prop}{D Bd cd M:Nat}{y:Dv}{Ac:Option Addr}{v:Value}{e:Ending}(hS:∀b,S b↔Blk9 D Bd M Ac b)(h:RetSt9 y D Bd cd M Ac v w e w'):e= .returned v∧MutD Rp9 S D y w w':=by
  obtain⟨he,hf,cc',Ac',ds',hq,hb⟩:=h;exact⟨he,Blk9 D Bd M Ac',⟨Bd,cd,Ac',cc',M,ds',hq,λ _=>Iff.rfl⟩,hf.mono λ b h=>(hS b).2 h,λ b h=>(hb b h).imp (hS b).2 id⟩
theorem drvK:DrvK Rp9 where
  fr:=by
    rintro w w' S T D x ⟨Bd,cd,Ac,cc,M,ds,hq,hS⟩ hf hT;exact⟨Bd,cd,Ac,cc,M,ds,hq.fr hf (λ b hb=>hT b ((hS b).2 hb)),hS⟩
  old:=by
    rintro w S D x ⟨Bd,cd,Ac,cc,M,ds,hq,hS⟩ b hb;exact hq.lt ((hS b).1 hb)
  ok:=by
    rintro w S D x ⟨Bd,cd,Ac,cc,M,ds,hq,hS⟩;exact hq.ok
  new_yes:=by
    intro n w h1 h2;refine(jhN n w h1 h2).mono ?_;rintro e w' ⟨D,Bd,cd,M,ds,rfl,hq,hb,g1,g2,g3⟩;refine⟨D,Blk9 D Bd M none,rfl,⟨Bd,cd,none,0,M,ds,hq,λ _=>Iff.rfl⟩,hb,λ b h=> ?_⟩
    rcases h with h|h|h|⟨o,h⟩
    . omega
    . omega
    . omega
    . cases h
  new_no:=λ z w h1 h2 h=>jpf z w h1 h2 h
  sectors:=by
    rintro w S D x ⟨Bd,cd,Ac,cc,M,ds,hq,hS⟩;exact(jgS hq).mono λ e w' h=>⟨h.1,by rw [h.2];exact Below.refl _ _⟩
  read:=by
    rintro w S D x z h1 h2 hw ⟨Bd,cd,Ac,cc,M,ds,hq,hS⟩;exact jk9 z h1 h2 hw hq
  write:=by
    rintro w S D x z A n c l h1 h2 hw ⟨Bd,cd,Ac,cc,M,ds,hq,hS⟩ hs;exact(jjc z A n c l h1 h2 hw hq hs).mono λ e w' h=>h.mut hS
  flush:=by
    rintro w S D x hw ⟨Bd,cd,Ac,cc,M,ds,hq,hS⟩;exact(jja hw hq).mono λ e w' h=>h.mut hS
  crash:=by
    rintro w S D x A n c ks hw ⟨Bd,cd,Ac,cc,M,ds,hq,hS⟩ hs hA;exact(jjb A n c ks hw hq hs (λ b o hn he hb=>hA b o hn he ((hS b).2 hb))).mono λ e w' h=>h.mut hS
  fail:=by
    rintro w S D x ⟨Bd,cd,Ac,cc,M,ds,hq,hS⟩;refine(jla hq).mono ?_;rintro e w' ⟨Bd',cd',M',ds',rfl,hq',hf,g1,g2⟩;refine⟨rfl,Blk9 D Bd' M' none,⟨Bd',cd',none,0,M',ds',hq',λ _=>Iff.rfl⟩,hf.mono λ b h=>(hS b).2 (.inl h),λ b h=> ?_⟩
    rcases h with h|h|h|⟨o,h⟩
    . exact .inl ((hS b).2 (.inl h))
    . exact .inr (by omega)
    . exact .inr (by omega)
    . cases h
  replace:=by
    rintro w S D x ⟨Bd,cd,Ac,cc,M,ds,hq,hS⟩;refine(jdP hq).mono ?_;rintro e w' ⟨Bd',cd',M',ds',rfl,hq',hf,g1,g2⟩;refine⟨rfl,Blk9 D Bd' M' none,⟨Bd',cd',none,0,M',ds',hq',λ _=>Iff.rfl⟩,hf.mono λ b h=>(hS b).2 (.inl h),λ b h=> ?_⟩
    rcases h with h|h|h|⟨o,h⟩
    . exact .inl ((hS b).2 (.inl h))
    . exact .inr (by omega)
    . exact .inr (by omega)
    . cases h
  rot:=by
    rintro w S D x z off mask h1 h2 h3 h4 h5 ⟨Bd,cd,Ac,cc,M,ds,hq,hS⟩;exact(jm5 z off mask h1 h2 h3 h4 h5 hq).mono λ e w' h=>h.mut hS
  copy:=by
    rintro w S D x hw ⟨Bd,cd,Ac,cc,M,ds,hq,hS⟩;refine(jle hw hq).mono ?_;rintro e w' ⟨D',Bd',cd',Ac',cc',M',ds',rfl,hq',hb,hg⟩;exact⟨D',Blk9 D' Bd' M' Ac',rfl,⟨Bd',cd',Ac',cc',M',ds',hq',λ _=>Iff.rfl⟩,hb,hg⟩
end
end Go.Proofs.YtmhejbihdghhaaaGreatDoor

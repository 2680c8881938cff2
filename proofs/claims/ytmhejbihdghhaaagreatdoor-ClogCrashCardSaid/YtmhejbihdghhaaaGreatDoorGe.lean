/-
  Contracts of slices.Grow and slices.Concat as package matrix calls them
-/
import Derived.Test.YtmhejbihdghhaaaGreatDoorGd
import Derived.Lib.AppendZerosOnto
import Derived.Lib.AppendZeros
import Derived.LoopN
import Derived.Test.YtmhejbihdghhaaaGreatDoorGb
import Derived.Test.YtmhejbihdghhaaaGreatDoorProg
import Derived.Outline
namespace Go.Proofs.YtmhejbihdghhaaaGreatDoor
set_option linter.unusedVariables false
open Go.RowKit Go.Proofs
open Go.RowKit Go.Proofs
open Go.RowKit Go.Proofs
open Go.RowKit Go.Proofs
set_option maxRecDepth 20000
set_option maxHeartbeats 1600000
section
theorem jmC (k:Nat)(h0:0<k)(hk:k<=1073741824)(w:World)(ty:TypeId):
  ∃C w',(Builtin.append_ #[105,3] ty #[.slice none 0 0, .int .i64 (k:Int)]).run Tryz.prog w= .ok (.slice (some ⟨w.heap.size,0,none⟩) k C) w' ∧Below w.heap.size w w' ∧k<=C∧C<=maxLen∧Grow w' w.heap.size (some ⟨w.heap.size,0,none⟩) 0 C []:=by
 obtain⟨i0,hi,hz0,hz1,hz2⟩:=info_parts jbf;have hold:(Builtin.firstCells i0.size 0 (.slice none 0 0)).run Tryz.prog w.drew= .ok ([]:List Value).toArray w.drew:=run_firstCells_none w.drew i0.size 0 0 0;have h:=Lib.run_append_grow_zeros w 105 3 ty 5 i0 (.int .u8 0) .i64 .i64 Tryz.underlying105 Tryz.underlying3 hi hz0 none 0 0 [] hold k h0 (by rw [hz1];decide) (by omega) (by omega) (by rw [hz2];omega)
  (growslice_fits (by omega) (by rw [hz2];omega))
 have hge:=grownCap_ge w (0+k) 0 5;have hcm:=grownCap_le_maxLen w (0+k) 0 5 (by unfold maxLen;omega);rw [Nat.zero_add] at h hge hcm;refine⟨_,_,h,(Below.drew (Below.refl _ _)).alloc (Nat.le_refl _) _,hge,hcm,⟨⟨Sl.empty _ 1 _ _ hcm, .inr ⟨by simp [cells], .inr ⟨w.heap.size,_,_,rfl,Nat.le_refl _,heap_alloc_new w.drew _,Nat.zero_le _,hcm, ?_,by simp [cells]⟩⟩⟩,λ h=>absurd h (by omega)⟩⟩;simp only [Array.size_append,List.size_toArray,size_zeroCells,List.length_nil,Value.cells];simp;omega
theorem joZ (k:Nat)(h0:0<k)(hk:k<=1073741824)(w:World):
  Calls Tryz.prog 233 #[.slice none 0 0, .int .i64 (k:Int)] w λ e w' =>∃A C,e= .returned (.slice A 0 C)∧Below w.heap.size w w' ∧Grow w' w.heap.size A 0 C []:=by
 obtain⟨C,w1,hr,hb,hC,hC2,hg⟩:=jmC k h0 hk w 105;have h1:¬((k:Int)<0):=by omega
 have h4:((k:Int)>0):=by omega
 unfold maxLen at hC2;have Hb:=qH hb;clear hb;have Hg:=qH hg;clear hg;go_enter Tryz.func233,Tryz.ntmps233;go_wp2_with (at_builtin;refine Lib.wpList_append_run _ rfl _ _ _ _ rfl _ _ rfl rfl _ _ hr ?_);go_ret;exact⟨_,C,rfl,Hb.out,Hg.out⟩
theorem jkS (g:Nat)(A1:Option Addr)(n1 c1:Nat)(l1:List UInt8)(A2:Option Addr)(n2 c2:Nat)(l2:List UInt8)(h1:1<=n1)(h2:n1<=255)(h2':1<=n2)(h3:n2<=255)(w:World)
  (hg:w.heap[g]? =some (.cells #[.slice A1 n1 c1, .slice A2 n2 c2] 105 (0,0)))(s1:Sl w 1 A1 n1 c1 (cells l1))(s2:Sl w 1 A2 n2 c2 (cells l2)):
  Calls Tryz.prog 194 #[.slice (some ⟨g,0,none⟩) 2 2] w (jcw w.heap.size w (l1++l2)):=by
 have k0:w.cell? ⟨g,0,none⟩=some (.slice A1 n1 c1):=by rw [cell_of_row _ _ _ _ _ _ hg];rfl
 have k1:w.cell? ⟨g,1,none⟩=some (.slice A2 n2 c2):=by rw [cell_of_row _ _ _ _ _ _ hg];rfl
 have hgl:=block_lt hg;have S1:=qH s1;clear s1;have S2:=qH s2;clear s2;clear hg;go_enter Tryz.func194,Tryz.ntmps194;go_wp2_with fail;refine wp_loop_rounds 3 ?_;rw [rounds_succ];go_wp2_with fail;rw [rounds_succ];go_wp2_with fail;rw [rounds_succ];go_wp2_with fail;have hh:=joZ (n1+n2) (by omega) (by omega) w;rw [show ((n1+n2:Nat):Int)=(n1:Int) +(n2:Int) from by simp] at hh;refine hh.mono ?_;clear hh;rintro e w1 ⟨A,C,rfl,hb,hgr⟩;have k0':=(hb.cell (p:=⟨g,0,none⟩) hgl).trans k0;have k1':=(hb.cell (p:=⟨g,1,none⟩) hgl).trans k1;have T1:=qH (S1.out.below hb (Nat.le_refl _));have T2:=qH (S2.out.below hb (Nat.le_refl _));have Hb:=qH hb;clear hb;have Hgr:=qH hgr;clear hgr k0 k1;have hz1:=Hb.out.size;go_wp2_with fail;refine wp_loop_rounds 3 ?_;rw [rounds_succ]
 go_wp2_with (at_builtin;refine jaG (B:=w.heap.size) rfl (.tmp 31) (.tmp 32) rfl rfl Hgr.out.own ?pa A1 n1 c1 l1 rfl T1.out ?pb ?pc)
 case pa=>omega
 case pb=>omega
 intro A3 c3 w2 ho2 hb2 hr2;have k1'' :=(hb2.cell (p:=⟨g,1,none⟩) hgl).trans k1';have T3:=qH (S2.out.below (Hb.out.trans hb2) (Nat.le_refl _));have G2:=qH (show Grow w2 w.heap.size A3 n1 c3 ([] ++ l1) from ⟨by rw [jai];exact ho2,λ h=>by rw [jai];exact hr2 h⟩);have Hb2:=qH (Hb.out.trans hb2);have hz2:=Hb2.out.size;clear ho2 hr2 hb2 k0' k1';go_wp2_with fail;rw [rounds_succ];go_wp2_with (at_builtin;refine jaG (B:=w.heap.size) rfl (.tmp 31) (.tmp 32) rfl rfl G2.out.own ?qa A2 n2 c2 l2 rfl T3.out ?qb ?qc)
 case qa=>omega
 case qb=>omega
 intro A4 c4 w3 ho3 hb3 hr3;have S4:=qH ho3.sl;have M4:Mine w3 w.heap.size 5 A4 (n1+n2) (cells l1++cells l2):=by
  have:=Mine.of_own (hr3 h2')
  simpa using this
 have HM4:=qH M4;clear M4;have Hb3:=qH (Hb2.out.trans hb3);clear ho3 hr3 hb3;go_wp2_with fail;rw [rounds_succ];go_wp2_with fail;go_ret;exact⟨A4,_,c4,rfl,by have:=S4.out;rwa [<-jai] at this,Hb3.out,by rw [jai];exact HM4.out⟩
end
section
def metA (s:List UInt8):Array Value:=rowOf 256 λ k=> .bool (decide (UInt8.ofNat k∈s))
theorem jo0 (s:List UInt8)(x:UInt8):(metA s)[x.toNat]? =some (.bool (decide (x∈s))):=by
 rw [metA,jhv _ _ _ x.toNat_lt,UInt8.ofNat_toNat]
theorem jo1 (s:List UInt8)(x:UInt8):(metA s).setIfInBounds x.toNat (.bool true)=metA (s ++ [x]):=by
 refine jhw x.toNat _ ?_ λ k hk hne=> ?_
 ·simp [UInt8.ofNat_toNat]
 ·have:UInt8.ofNat k≠x:=λ e=>hne (by rw [<-e,UInt8.toNat_ofNat'];omega)
  simp [this]
theorem jo2 (w:World):(zeroValue 365).run Tryz.prog w= .ok (.agg (metA [])) w:=by kernel_rfl
end
section
def jgn (l:List UInt8):Bool:=decide (¬l.Nodup)
theorem jo3 {l:List UInt8}{k:Nat}(hk:k<l.length)(h:l[k]∈l.take k):jgn l=true:=by
 refine decide_eq_true λ hn=> ?_
 have h1:=(List.take_append_drop k l)▸hn;rw [List.nodup_append] at h1;refine h1.2.2 _ h _ ?_ rfl;rw [List.drop_eq_getElem_cons hk];exact List.mem_cons_self
theorem jkT {l:List UInt8}{k:Nat}(hk:k<l.length)(h:(l.take k).Nodup)(hx:¬l[k]∈l.take k):(l.take (k+1)).Nodup:=by
 rw [<-List.take_append_getElem hk,List.nodup_append];refine⟨h,by simp,λ a ha b hb e=> ?_⟩;rw [List.mem_singleton] at hb;exact hx (hb▸e▸ha)
theorem jmD (A1:Option Addr)(n1 c1:Nat)(l1:List UInt8)(A2:Option Addr)(n2 c2:Nat)(l2:List UInt8)(h1:1<=n1)(h2:n1<=255)(h2':1<=n2)(h3:n2<=255)(w:World)(s1:Sl w 1 A1 n1 c1 (cells l1))(s2:Sl w 1 A2 n2 c2 (cells l2)):
  Calls Tryz.prog 263 #[.slice A1 n1 c1, .slice A2 n2 c2] w λ e w' =>e= .returned (.bool (jgn (l1++l2)))∧Below w.heap.size w w':=by
 have hz:=jo2 w;obtain⟨l,hll⟩:∃l,l=l1++l2:=⟨_,rfl⟩;rw [<-hll];have Hll:=qH hll;clear hll;have S1:=qH s1;clear s1;have S2:=qH s2;clear s2;go_enter Tryz.func263,Tryz.ntmps263;go_wp2_with fail;have x0:=jbJ w (.cells (metA []) 365) (.cells #[.slice A1 n1 c1, .slice A2 n2 c2] 105);have x1:=jaQ w (.cells (metA []) 365) (.cells #[.slice A1 n1 c1, .slice A2 n2 c2] 105);have hb0:Below w.heap.size w ((w.alloc (.cells (metA []) 365)).alloc (.cells #[.slice A1 n1 c1, .slice A2 n2 c2] 105)):=((Below.refl _ _).alloc (Nat.le_refl _) _).alloc (by simp) _;have hh:=jkS (w.heap.size+1) A1 n1 c1 l1 A2 n2 c2 l2 h1 h2 h2' h3 _ x1 (S1.out.below hb0 (Nat.le_refl _)) (S2.out.below hb0 (Nat.le_refl _));refine hh.mono ?_;clear hh;rintro e w1 ⟨A,N,c,rfl,sl,hb1,hmine⟩;rw [<-Hll.out] at sl hmine;have hne:∀b o,0<N->A=some ⟨b,o,none⟩->b≠w.heap.size:=λ b o hn hA=>by
  obtain⟨g,cur,hA',hB,_⟩:=hmine hn;rw [hA] at hA';injection hA' with hA'
  injection hA' with hA' _
  simp at hB;omega
 have Hne0:=qH hne;clear hne hmine;have hbw:Below w.heap.size w w1:=hb0.trans (hb1.mono (by simp;omega));have x0':=(hb1.block _ (block_lt x0)).trans x0;have hlim:=sl.lim;unfold maxLen at hlim;have hl:=sl.len;rw [jaa,Nat.mul_one] at hl;have Sl0:=qH sl;clear sl;have Hl:=qH hl;clear hl;clear x0 x1 hb0 hb1 hz S1 S2;go_wp2_with fail;go_loopw [13] (λ i wr=>∃k:Nat,k<=N∧i= .int .i64 (k:Int)∧Below w.heap.size w wr∧Sl wr 1 A N c (cells l)∧wr.heap[w.heap.size]? =some (.cells (metA (l.take k)) 365 (0,0))∧(l.take k).Nodup∧(∀b o,0<N->A=some ⟨b,o,none⟩->b≠w.heap.size)) (λ i _=>N-(intOf i).toNat)
 case atStart=>exact⟨0,by omega,rfl,hbw,Sl0.out,by simpa using x0',by simp,Hne0.out⟩
 case round=>
  clear hbw x0' Sl0;obtain⟨k,hk,rfl,hb,sl,hx,hnd,hne⟩:=hrel;have Hnd:=qH hnd;clear hnd
  by_cases hlt:k<N
  ·have hkl:k<l.length:=by rw [Hl.out];exact hlt
   obtain⟨b,o,rfl,hc⟩:=sl.at_ hlt;have hcell:=hc k _ (jaE l k hkl);have Hc:=qH hc;clear hc;rw [bv] at hcell;have Sl1:=qH sl;clear sl;have hbn:=hne b o (by omega) rfl;obtain⟨x,hxx⟩:∃x,x=l[k]:=⟨_,rfl⟩;rw [<-hxx] at hcell;have Hxx:=qH hxx;clear hxx;have hx256:=x.toNat_lt;have hcm:wr.cell? ⟨w.heap.size,x.toNat,none⟩=some (.bool (decide (x∈l.take k))):=by rw [cell_of_row _ _ _ _ _ _ hx];exact jo0 _ x
   have hfm:wr.frozen? ⟨w.heap.size,x.toNat,none⟩=false:=frozen_of_row _ _ _ _ _ hx;have Hx:=qH hx;clear hx;have Hne:=qH hne;clear hne
   by_cases hm:x∈l.take k
   ·rw [decide_eq_true hm] at hcm
    have Hm:=qH hm;clear hm;go_wp2_with fail;go_ret;exact⟨by rw [jo3 hkl (by rw [<-Hxx.out];exact Hm.out)];rfl,hb⟩
   ·rw [decide_eq_false hm] at hcm
    have Hm:=qH hm;clear hm;have hq:Fr (λ k=>k=w.heap.size) wr (wr.setCell ⟨w.heap.size,x.toNat,none⟩ (.bool true)):=Fr.setCell (S:=λ k=>k=w.heap.size) (Fr.refl _ _) (.inr rfl) _;have hs2:=heap_setCell_same wr w.heap.size x.toNat _ _ (.bool true) Hx.out;rw [jo1,Hxx.out,List.take_append_getElem hkl,<-Hxx.out] at hs2;have Hq:=qH hq;clear hq;have Hs2:=qH hs2;clear hs2;go_wp2_with fail;go_roundw
    case rel=>exact⟨k+1,by omega,by go_num,hb.setCell (Nat.le_refl _) _,Sl1.out.fr Hq.out (λ b' o' hn hA hk=>Hne.out b' o' hn hA hk),Hs2.out,jkT hkl Hnd.out (by rw [<-Hxx.out];exact Hm.out),Hne.out⟩
    case measure=>simp [intOf];omega
  ·obtain rfl:k=N:=by omega
   go_wp2_with fail;go_ret;exact⟨by rw [show jgn l=false from decide_eq_false (λ h=>h (by have:=Hnd.out;rwa [List.take_of_length_le (by rw [Hl.out];exact Nat.le_refl _)] at this))];rfl,hb⟩
end
section
def cauW (w:World)(f x y:Value):World:=
 (((w.alloc (.cells #[f] 91)).alloc (.cells #[x] 105)).alloc (.cells #[y] 105)).alloc (.cells #[.int .i64 0, .int .i64 0, .slice none 0 0] 338)
section
variable (w:World)(f x y:Value)
theorem jmE:(cauW w f x y).heap.size=w.heap.size+4:=by simp [cauW]
theorem jdc:Below w.heap.size w (cauW w f x y):=((((Below.refl _ _).alloc (Nat.le_refl _) _).alloc (by simp) _).alloc (by simp;omega) _).alloc (by simp;omega) _
theorem cauW_0:(cauW w f x y).heap[w.heap.size]? =some (.cells #[f] 91 (0,0)):=
 (Below.heap_alloc _ _ _ (by first|(simp;done)|(simp;omega))).trans ((Below.heap_alloc _ _ _ (by first|(simp;done)|(simp;omega))).trans (jbJ w _ _))
theorem cauW_1:(cauW w f x y).heap[w.heap.size+1]? =some (.cells #[x] 105 (0,0)):=
 (Below.heap_alloc _ _ _ (by first|(simp;done)|(simp;omega))).trans ((Below.heap_alloc _ _ _ (by first|(simp;done)|(simp;omega))).trans (jaQ w _ _))
theorem cauW_2:(cauW w f x y).heap[w.heap.size+2]? =some (.cells #[y] 105 (0,0)):=by
 refine(Below.heap_alloc _ _ _ (by simp)).trans ?_;have:=jaQ (w.alloc (.cells #[f] 91)) (.cells #[x] 105) (.cells #[y] 105)
 rwa [show (w.alloc (.cells #[f] 91)).heap.size+1=w.heap.size+2 from by simp] at this
theorem cauW_3:(cauW w f x y).heap[w.heap.size+3]? =some box0:=by
 have:=jaQ ((w.alloc (.cells #[f] 91)).alloc (.cells #[x] 105)) (.cells #[y] 105) box0
 rwa [show ((w.alloc (.cells #[f] 91)).alloc (.cells #[x] 105)).heap.size+1=w.heap.size+3 from by simp] at this
end
structure CauAt (w0 w:World)(F T:Nat)(x y:Value):Prop where
 fr:Fr (Ft T) w0 w
 fld:Fld1 w F T
 size:w0.heap.size+4<=w.heap.size
 b0:w.heap[w0.heap.size]? =some (.cells #[.pointer (some ⟨F,0,none⟩)] 91 (0,0))
 b1:w.heap[w0.heap.size+1]? =some (.cells #[x] 105 (0,0))
 b2:w.heap[w0.heap.size+2]? =some (.cells #[y] 105 (0,0))
 b3:w.heap[w0.heap.size+3]? =some box0
theorem CauAt.later {w0 w w':World}{F T:Nat}{x y:Value}(h:CauAt w0 w F T x y)(hb:Below w.heap.size w w'):CauAt w0 w' F T x y:=
 ⟨h.fr.trans (Fr.of_below hb),h.fld.later hb,Nat.le_trans h.size hb.size,(hb.block _ (block_lt h.b0)).trans h.b0,(hb.block _ (block_lt h.b1)).trans h.b1,(hb.block _ (block_lt h.b2)).trans h.b2,(hb.block _ (block_lt h.b3)).trans h.b3⟩
theorem CauAt.start {w w1:World}{F T:Nat}{x y:Value}(hT:T<w.heap.size)(hf:Fld1 w1 F T)(hr:Fr (Ft T) (cauW w (.pointer (some ⟨F,0,none⟩)) x y) w1):CauAt w w1 F T x y:=
 ⟨(Fr.of_below (jdc w _ x y)).trans hr,hf,by have:=hr.size;rw [jmE] at this;exact this,
  hr.row_some (cauW_0 w _ x y) (by show ¬_=T;omega),hr.row_some (cauW_1 w _ x y) (by show ¬_=T;omega),hr.row_some (cauW_2 w _ x y) (by show ¬_=T;omega),hr.row_some (cauW_3 w _ x y) (by show ¬_=T;omega)⟩
theorem CauAt.no {w0 w:World}{F T:Nat}{x y:Value}(h:CauAt w0 w F T x y)(hT:T<w0.heap.size)(hF:F<w0.heap.size)(r c:Int)(A:Option Addr)(n cp:Nat):
  Fld1 (((w.setCell ⟨w0.heap.size+3,0,none⟩ (.int .i64 r)).setCell ⟨w0.heap.size+3,1,none⟩ (.int .i64 c)).setCell ⟨w0.heap.size+3,2,none⟩ (.slice A n cp)) F T∧Fr (Ft T) w0 (((w.setCell ⟨w0.heap.size+3,0,none⟩ (.int .i64 r)).setCell ⟨w0.heap.size+3,1,none⟩ (.int .i64 c)).setCell ⟨w0.heap.size+3,2,none⟩ (.slice A n cp)):=by
 have hq:=jcV w (w0.heap.size+3) r c A n cp;exact⟨h.fld.fr hq (by show ¬F=_;omega) (by show ¬T=_;omega),h.fr.andNew hq (λ i hi hk=>by have hk:i=_:=hk;omega)⟩
theorem ji0:∀args w,(callFunc 265 args).run Tryz.prog w= .ok (.enter 265 args) w:=enters_of Tryz.func265 (by kernel_rfl) rfl
theorem jo4 (F T bf b1 b2:Nat)(A1:Option Addr)(n1 c1:Nat)(l1:List UInt8)(A2:Option Addr)(n2 c2:Nat)(l2:List UInt8)(i j:Nat)(hi:i<n1)(hj:j<n2)(hn1:n1<=255)(hn2:n2<=255)(w:World)(hf:Fld1 w F T)(s1:Sl w 1 A1 n1 c1 (cells l1))(s2:Sl w 1 A2 n2 c2 (cells l2))
  (hne:l1.getD i 0 ^^^ l2.getD j 0≠0)
  (kf:w.cell? ⟨bf,0,none⟩=some (.pointer (some ⟨F,0,none⟩)))(k1:w.cell? ⟨b1,0,none⟩=some (.slice A1 n1 c1))(k2:w.cell? ⟨b2,0,none⟩=some (.slice A2 n2 c2)):
  Calls Tryz.prog 265 #[.int .i64 (i:Int), .int .i64 (j:Int), .pointer (some ⟨bf,0,none⟩), .pointer (some ⟨b1,0,none⟩), .pointer (some ⟨b2,0,none⟩)] w
   λ e w' =>e= .returned (.int .u8 ((ginv (l1.getD i 0 ^^^ l2.getD j 0)).toNat:Int))∧∃k,w' =w.drewN k:=by
 have hl1:=s1.len;have hl2:=s2.len;rw [jaa,Nat.mul_one] at hl1 hl2;have e1:l1.getD i 0=l1[i]'(by omega):=by simp [show i<l1.length from by omega]
 have e2:l2.getD j 0=l2[j]'(by omega):=by simp [show j<l2.length from by omega]
 obtain⟨g1,o1,rfl,hc1⟩:=s1.at_ hi;obtain⟨g2,o2,rfl,hc2⟩:=s2.at_ hj;have x1:=hc1 i _ (jaE l1 i (by omega));have x2:=hc2 j _ (jaE l2 j (by omega));rw [<-e1,bv] at x1;rw [<-e2,bv] at x2;obtain⟨u,hu⟩:∃u,u=l1.getD i 0:=⟨_,rfl⟩;obtain⟨v,hv⟩:∃v,v=l2.getD j 0:=⟨_,rfl⟩;rw [<-hu] at x1 hne ⊢;rw [<-hv] at x2 hne ⊢;have hx:=joB u v;obtain⟨z,hz⟩:∃z,z=u ^^^ v:=⟨_,rfl⟩;rw [<-hz] at hx hne ⊢;have Hne:=qH hne;clear hne;have Hf:=qH hf;clear hf;have hm1:=s1.lim;have hm2:=s2.lim;unfold maxLen at hm1 hm2;clear hz hu hv e1 e2 hc1 hc2 s1 s2 hl1 hl2;go_enter Tryz.func265,Tryz.ntmps265;go_wp2_with fail;go_quiet (first|(go_at_call 127;exact Calls.quiet_of (jj7 F T z Hne.out _ (Hf.out.drewN _))));go_wp2_with fail;go_ret;exact⟨rfl,_,rfl⟩
def cauM (l1 l2:List UInt8):Mx:=λ i j=>ginv (l1.getD i 0 ^^^ l2.getD j 0)
theorem jqU {l1 l2:List UInt8}(h:jgn (l1++l2)=false){i j:Nat}(hi:i<l1.length)(hj:j<l2.length):l1.getD i 0 ^^^ l2.getD j 0≠0:=by
 have hn:(l1++l2).Nodup:=Decidable.byContradiction λ hh=>by
  have:=of_decide_eq_false h;exact this hh
 rw [List.nodup_append] at hn;intro e;refine hn.2.2 (l1[i]) (List.getElem_mem hi) (l2[j]) (List.getElem_mem hj) ?_;have:=jma e
 simpa [hi,hj] using this
theorem jkU (F T:Nat)(A1:Option Addr)(n1 c1:Nat)(l1:List UInt8)(A2:Option Addr)(n2 c2:Nat)(l2:List UInt8)(w:World)(h:Fld w F T)(s1:MxAt w T A1 n1 c1 l1)(s2:MxAt w T A2 n2 c2 l2)
  (g1:1<=n1∧n1<=255)(g2:1<=n2∧n2<=255)(h3:jgn (l1++l2)=false):
  Calls Tryz.prog 237 #[.pointer (some ⟨F,0,none⟩), .slice A1 n1 c1, .slice A2 n2 c2] w λ e w' =>jqR n1 n2 (tabL n1 n2 (cauM l1 l2)) w e w' ∧Fld1 w' F T∧Fr (Ft T) w w':=by
 have hT:=h.ltT;have hF:=h.ltF;have hl1:=s1.sl.len;have hl2:=s2.sl.len;rw [jaa,Nat.mul_one] at hl1 hl2;have hhM:=jfe F T (cauW w (.pointer (some ⟨F,0,none⟩)) (.slice A1 n1 c1) (.slice A2 n2 c2)) (h.later (jdc w _ _ _));have S1:=qH s1;clear s1;have S2:=qH s2;clear s2;have H3:=qH h3;clear h3;have Hl1:=qH hl1;clear hl1;have Hl2:=qH hl2;clear hl2;go_enter Tryz.func237,Tryz.ntmps237;go_wp2_with fail;refine hhM.mono ?_;clear hhM;rintro e w1 ⟨rfl,hf1,r1⟩;have I1:=qH (CauAt.start hT hf1 r1);have M1:=qH ((S1.out.later (jdc w (.pointer (some ⟨F,0,none⟩)) (.slice A1 n1 c1) (.slice A2 n2 c2))).fr r1);have M2:=qH ((S2.out.later (jdc w (.pointer (some ⟨F,0,none⟩)) (.slice A1 n1 c1) (.slice A2 n2 c2))).fr r1);clear hf1 r1;have a1:=cell_of_one I1.out.b1;have a2:=cell_of_one I1.out.b2;go_wp2_with fail
 refine(jdG (n1:Int) (by omega) (by omega) _).mono ?_;rintro e w2 ⟨rfl,rfl⟩;go_wp2_with fail;refine(jdG (n2:Int) (by omega) (by omega) _).mono ?_;rintro e w2 ⟨rfl,rfl⟩;go_wp2_with fail;refine(jmD A1 n1 c1 l1 A2 n2 c2 l2 (by omega) (by omega) (by omega) (by omega) _ M1.out.sl M2.out.sl).mono ?_;rintro e w2 ⟨rfl,hb2⟩;rw [H3.out];have I3:=qH (I1.out.later hb2);have M3:=qH (M1.out.later hb2);have M4:=qH (M2.out.later hb2);clear hb2 a1 a2 M1 M2 I1;have a0:=cell_of_one I3.out.b0;have a1:=cell_of_one I3.out.b1;have a2:=cell_of_one I3.out.b2;have hht:jmv 265 #[.pointer (some ⟨w.heap.size,0,none⟩), .pointer (some ⟨w.heap.size+1,0,none⟩), .pointer (some ⟨w.heap.size+2,0,none⟩)] n1 n2 (cauM l1 l2) w2:=λ W i j hi hj hb=>by
  have hh:=jo4 F T w.heap.size (w.heap.size+1) (w.heap.size+2) A1 n1 c1 l1 A2 n2 c2 l2 i j hi hj g1.2 g2.2 W (I3.out.fld.later hb) (M3.out.later hb).sl (M4.out.later hb).sl (jqU H3.out (by rw [Hl1.out];exact hi) (by rw [Hl2.out];exact hj))
   ((hb.cell (World.block_lt_of_cell? w2 _ a0)).trans a0) ((hb.cell (World.block_lt_of_cell? w2 _ a1)).trans a1) ((hb.cell (World.block_lt_of_cell? w2 _ a2)).trans a2)
  exact hh.mono λ e w' ⟨he,k,hk⟩=>⟨he,hk▸below_drewN (Below.refl _ _) k⟩
 have hhB:=jcU n1 n2 g1.2 g2.2 _ ji0 _ _ _ hht;clear hht h;go_wp2_with fail;refine hhB.mono ?_;clear hhB;rintro e w6 ⟨v,rfl,⟨A6,c6,rfl,hg6⟩,hb6⟩;have hs3:=I3.out.size;have I6:=qH (I3.out.later hb6);have HG6:=qH hg6;clear hg6 a0 a1 a2;have x0:=jfh I6.out.b3;have x1:=jfi I6.out.b3;have x2:=jfj I6.out.b3;have y0:=jaq I6.out.b3 0;have y1:=jaq I6.out.b3 1;have y2:=jaq I6.out.b3 2;go_wp2_with fail;refine bodyPost_ret (jal Tryz.results237 _ _ (w.heap.size+3) 338 _ (0,0) _ rfl (jcz I6.out.b3) Tryz.underlying338 rfl jbm) rfl ?_;have hq:=jcV w6 (w.heap.size+3) (n1:Int) (n2:Int) A6 (n1*n2) c6;exact⟨⟨A6,c6,rfl,(HG6.out.frG hq (by omega)).lower (by omega)⟩,I6.out.no hT hF (n1:Int) (n2:Int) A6 (n1*n2) c6⟩
end
end Go.Proofs.YtmhejbihdghhaaaGreatDoor

/-
  Contract of package frame's Right
-/
import Derived.Test.YtmhejbihdghhaaaGreatDoorQcar
import Derived.Test.YtmhejbihdghhaaaGreatDoorQcas
namespace Go.Proofs.YtmhejbihdghhaaaGreatDoor
set_option linter.unusedVariables false
section
open Go.RowKit Go.Proofs
set_option maxRecDepth 20000
set_option maxHeartbeats 1600000
theorem jlM (v:CvF)(w:World)(h:v.Ok w):Calls Tryz.prog 188 #[.agg v.vals.toArray] w λ e w' =>e= .returned (.bool (okC v.x))∧Below w.heap.size w w':=by
 cases hd:v.x.dead
 ·exact jif v hd w h
 ·exact jjA v hd w
def ReB (w:World)(B:Nat)(st:Nat)(A:Option Addr)(n c:Nat):Prop:=w.heap[B]? =some (.cells #[.int .u64 (st:Int), .slice A n c] 42 (0,0))
section
variable {w w':World}{B st n c:Nat}{A:Option Addr}
theorem ReB.c0 (h:ReB w B st A n c):w.cell? ⟨B,0,none⟩=some (.int .u64 (st:Int)):=by rw [cell_of_row _ _ _ _ _ _ h];rfl
theorem ReB.c1 (h:ReB w B st A n c):w.cell? ⟨B,1,none⟩=some (.slice A n c):=by rw [cell_of_row _ _ _ _ _ _ h];rfl
theorem ReB.later (h:ReB w B st A n c)(hb:Below w.heap.size w w'):ReB w' B st A n c:=(hb.block _ (block_lt h)).trans h
theorem ReB.new:ReB (w.alloc (.cells #[.int .u64 (st:Int), .slice A n c] 42)) w.heap.size st A n c:=heap_alloc_new w _
end
theorem job {l:List CvF}{i:Nat}{v:CvF}(h:l[i]? =some v)(a:ByteArray):okCs a ((l.drop i).map CvF.x)=(gtK v.x.key a && (decide (v.x.key.size<=16) && (okC v.x && okCs v.x.key ((l.drop (i+1)).map CvF.x)))):=by
 obtain⟨hi,he⟩:=List.getElem?_eq_some_iff.1 h;rw [List.drop_eq_getElem_cons hi,he]
 rfl
theorem jeZ {w:World}{b o i:Nat}{v:CvF}(h:∀(j:Nat) u,v.vals[j]? =some u->w.cell? ⟨b,o+i*5+j,none⟩=some u):w.rangeAt b (o+i*5) v.vals:=h
theorem jhg (st:Nat)(A:Option Addr)(n c:Nat)(hn:16<n)(hl:n<=maxLen)(w:World):Calls Tryz.prog 130 #[.agg #[.int .u64 (st:Int), .slice A n c]] w λ e w' =>e= .returned (.bool false)∧Below w.heap.size w w':=by
 have hb1:Below w.heap.size w (w.alloc (.cells #[.int .u64 (st:Int), .slice A n c] 42)):=(Below.refl _ _).alloc (Nat.le_refl _) _;have hx:=ReB.new (w:=w) (st:=st) (A:=A) (n:=n) (c:=c);have c1:=hx.c1;unfold maxLen at hl;have hq:(16:Int)<(n:Int):=by omega
 have B1:=qH hb1;clear hb1 hx;go_enter Tryz.func130,Tryz.ntmps130;go_wp2_with fail;go_ret;exact⟨rfl,B1.out⟩
theorem jim (st:Nat)(A:Option Addr)(n c:Nat)(l:List CvF)(hn:n<=16)(w:World)(h:Chs w A n c l):Calls Tryz.prog 130 #[.agg #[.int .u64 (st:Int), .slice A n c]] w λ e w' =>e= .returned (.bool (okCs ⟨#[]⟩ (l.map CvF.x)))∧Below w.heap.size w w':=by
 have hb1:Below w.heap.size w (w.alloc (.cells #[.int .u64 (st:Int), .slice A n c] 42)):=(Below.refl _ _).alloc (Nat.le_refl _) _;have hx:=ReB.new (w:=w) (st:=st) (A:=A) (n:=n) (c:=c);have c1:=hx.c1;have hq:¬(16:Int)<(n:Int):=by omega
 obtain⟨wa,hwa⟩:∃x,x=w.alloc (.cells #[.int .u64 (st:Int), .slice A n c] 42):=⟨_,rfl⟩;have HWA:=qH hwa;rw [<-hwa] at hb1 c1;have HB:=qH hb1;have HC:=qH h;clear hb1 hx h hwa;go_enter Tryz.func130,Tryz.ntmps130;go_wp2_with (rw [<-HWA.out]);go_loopw [3,13] (λ av iv wr=>∃(i:Nat) (a:ByteArray),av= .string a∧iv= .int .i64 (i:Int)∧i<=n∧Below w.heap.size w wr∧okCs a ((l.drop i).map CvF.x)=okCs ⟨#[]⟩ (l.map CvF.x)) (λ _ iv _=>n-(intOf iv).toNat)
 case atStart=>exact⟨0,⟨#[]⟩,rfl,rfl,by omega,HB.out,rfl⟩
 case round=>
  obtain⟨i,a,rfl,rfl,hi,hbe,ho⟩:=hrel;have BE:=qH hbe;clear hbe c1
  by_cases hlt:i<n
  ·have hii:(i:Int)<(n:Int):=by omega
   obtain⟨v,hv⟩:∃v,l[i]? =some v:=⟨_,List.getElem?_eq_getElem (by rw [HC.out.len];exact hlt)⟩;rw [job hv] at ho;obtain⟨b,o,rfl,hcl,hok⟩:=(HC.out.below BE.out).cell i v hv;have RA:=qH (jeZ hcl);have hb2:Below wr.heap.size wr (wr.alloc (.cells v.vals.toArray 144)):=(Below.refl _ _).alloc (Nat.le_refl _) _;have hx2:=CvB.new (w:=wr) (v:=v);obtain⟨w2,hw2⟩:∃x,x=wr.alloc (.cells v.vals.toArray 144):=⟨_,rfl⟩;have HW2:=qH hw2;rw [<-hw2] at hb2 hx2;have c0:=hx2.c0;have X2:=qH hx2;have B2:=qH (BE.out.trans (hb2.mono BE.out.size));have hlv:=jlM v w2 (hok.below hb2);have HLV:=qH hlv;have HSZ:=qH (jfO v);have HSL:=qH (show (Tryz.prog.info? 144).map (·.size)=some v.vals.length from HSZ.out);have HON:=qH (jkt v);have HO:=qH ho;obtain⟨y,hy⟩:∃y,y=(Op.bytesLess v.x.key.toList a.toList||v.x.key.toList==a.toList):=⟨_,rfl⟩;have hgt:gtK v.x.key a= !y:=by rw [hy];rfl
   have HGT:=qH hgt;have hy2:=hy.symm;clear hb2 hx2 hw2 hlv hcl hok ho hgt hy
   cases y
   ·have hgk:gtK v.x.key a=true:=HGT.out
    have GK:=qH hgk;clear hgk
    by_cases hk:v.x.key.size<=16
    ·have hk2:¬(16:Int)<(v.x.key.size:Int):=by omega
     have K1:=qH hk;clear hk
     cases hc:okC v.x
     ·have HC0:=qH hc
      rw [hc] at HLV;clear hc;go_wp2_with (first|(rw [<-HW2.out])|(refine jaj (d:=16) ?_;refine wpList_load_mid (op:=⟨some 16,_,_,_,_,_⟩) rfl 144 (.tmp 15) rfl b (o+i*5) rfl _ _ RA.out Tryz.underlying144 rfl HSL.out ?_)|(refine jax ?_;refine jam (o:=⟨none,_,_,_,_,_⟩) rfl 144 (.tmp 5) (.tmp 16) rfl wr _ v.vals.toArray 144 rfl rfl HSZ.out rfl HON.out ?_;rw [<-HW2.out])|(refine jaj (d:=28) ?_;refine jad (o:=⟨some 28,_,_,_,_,_⟩) (by rfl) _ _ (jbS rfl rfl X2.out) ?_));refine HLV.out.mono ?_;rintro e w3 ⟨rfl,hb3⟩;have B3:=qH (B2.out.trans (hb3.mono B2.out.size));clear hb3;go_wp2_with fail;go_ret;refine⟨?_,B3.out⟩;rw [<-HO.out,GK.out,HC0.out,Bool.false_and,Bool.and_false,Bool.and_false]
      rfl
     ·have HC0:=qH hc
      rw [hc] at HLV;clear hc;go_wp2_with (first|(rw [<-HW2.out])|(refine jaj (d:=16) ?_;refine wpList_load_mid (op:=⟨some 16,_,_,_,_,_⟩) rfl 144 (.tmp 15) rfl b (o+i*5) rfl _ _ RA.out Tryz.underlying144 rfl HSL.out ?_)|(refine jax ?_;refine jam (o:=⟨none,_,_,_,_,_⟩) rfl 144 (.tmp 5) (.tmp 16) rfl wr _ v.vals.toArray 144 rfl rfl HSZ.out rfl HON.out ?_;rw [<-HW2.out])|(refine jaj (d:=28) ?_;refine jad (o:=⟨some 28,_,_,_,_,_⟩) (by rfl) _ _ (jbS rfl rfl X2.out) ?_));refine HLV.out.mono ?_;rintro e w3 ⟨rfl,hb3⟩;have B3:=qH (B2.out.trans (hb3.mono B2.out.size));have c3:=(X2.out.later hb3).c0;clear hb3;go_wp2_with fail;go_roundw
      case rel=>exact⟨i+1,v.x.key,rfl,by go_num,by omega,B3.out,by rw [<-HO.out,GK.out,HC0.out,decide_eq_true K1.out];rfl⟩
      case measure=>simp [intOf];omega
    ·have hk2:(16:Int)<(v.x.key.size:Int):=by omega
     have K1:=qH (decide_eq_false hk);clear hk;go_wp2_with (first|(rw [<-HW2.out])|(refine jaj (d:=16) ?_;refine wpList_load_mid (op:=⟨some 16,_,_,_,_,_⟩) rfl 144 (.tmp 15) rfl b (o+i*5) rfl _ _ RA.out Tryz.underlying144 rfl HSL.out ?_)|(refine jax ?_;refine jam (o:=⟨none,_,_,_,_,_⟩) rfl 144 (.tmp 5) (.tmp 16) rfl wr _ v.vals.toArray 144 rfl rfl HSZ.out rfl HON.out ?_;rw [<-HW2.out])|(refine jaj (d:=28) ?_;refine jad (o:=⟨some 28,_,_,_,_,_⟩) (by rfl) _ _ (jbS rfl rfl X2.out) ?_));go_ret;refine⟨?_,B2.out⟩;rw [<-HO.out,K1.out,Bool.false_and,Bool.and_false]
     rfl
   ·have GK:=qH (show gtK v.x.key a=false from HGT.out)
    go_wp2_with (first|(rw [<-HW2.out])|(refine jaj (d:=16) ?_;refine wpList_load_mid (op:=⟨some 16,_,_,_,_,_⟩) rfl 144 (.tmp 15) rfl b (o+i*5) rfl _ _ RA.out Tryz.underlying144 rfl HSL.out ?_)|(refine jax ?_;refine jam (o:=⟨none,_,_,_,_,_⟩) rfl 144 (.tmp 5) (.tmp 16) rfl wr _ v.vals.toArray 144 rfl rfl HSZ.out rfl HON.out ?_;rw [<-HW2.out])|(refine jaj (d:=28) ?_;refine jad (o:=⟨some 28,_,_,_,_,_⟩) (by rfl) _ _ (jbS rfl rfl X2.out) ?_));go_ret;refine⟨?_,B2.out⟩;rw [<-HO.out,GK.out,Bool.false_and]
    rfl
  ·obtain rfl:n=i:=by omega
   have e:(l.drop n).map CvF.x= []:=by rw [List.drop_of_length_le (by rw [HC.out.len];exact Nat.le_refl _)];rfl
   rw [e,okCs] at ho;have HO:=qH ho;clear ho e;go_wp2_with fail;go_ret;rw [<-HO.out];exact⟨rfl,BE.out⟩
theorem jeM (st:Nat)(A:Option Addr)(n c:Nat)(l:List CvF)(w:World)(h:Chs w A n c l):Calls Tryz.prog 130 #[.agg #[.int .u64 (st:Int), .slice A n c]] w λ e w' =>e= .returned (.bool (okR (l.map CvF.x)))∧Below w.heap.size w w':=by
 unfold okR;rw [List.length_map,h.len]
 by_cases hn:n<=16
 ·rw [decide_eq_true hn,Bool.true_and]
  exact jim st A n c l hn w h
 ·rw [decide_eq_false hn,Bool.false_and]
  exact jhg st A n c (by omega) (by have:=h.cap;have:=h.top;omega) w
end
section
open Go.RowKit Go.Proofs
set_option maxRecDepth 20000
set_option maxHeartbeats 1600000
theorem Gro.appendF {w:World}{B n c m:Nat}{A A2:Option Addr}{c2:Nat}{l ys:List UInt8}(h:Gro w B A n c l)(hB:B<=w.heap.size)(hA:∀b o,A=some ⟨b,o,none⟩->B<=b∧b<w.heap.size)(hs:Sl w 1 A2 m c2 (cells ys))(h47:n+m<=140737488355328)(ty:TypeId):
  ∃A' c' w',(Builtin.append_ #[105,105] ty #[.slice A n c, .slice A2 m c2]).run Tryz.prog w= .ok (.slice A' (n+m) c') w' ∧Gro w' B A' (n+m) c' (l++ys)∧Fr (Blk A) w w' ∧(A' =A∨A' =some ⟨w.heap.size,0,none⟩)∧(∀b o,A' =some ⟨b,o,none⟩->B<=b∧b<w'.heap.size):=by
 obtain⟨A1,c1,w1,hr1,h1,h2⟩:=h.append hB hs h47 ty;obtain⟨i0,hi,hz0,hz1,hz2⟩:=info_parts jbf;have ho:Own w B 5 1 A n c (cells l):=⟨h.sl,h.own.imp (λ k=>by omega) id⟩;obtain⟨A3,c3,w3,hr3,h3,h4,h5,h6⟩:=jcG (P:=Tryz.prog) 105 105 ty i0 (.int .u8 0) 1 Tryz.underlying105 hi hz0 hz1 hz2 rfl (by decide) ho hB hA (.slice A2 m c2) m (cells ys) (hs.src Tryz.underlying105 (by decide) (cells_one ys)) (by unfold maxLen;omega) (by omega);rw [hr1] at hr3;injection hr3 with e1 e2
 injection e1 with e3 _ e4
 subst e2 e3 e4;exact⟨_,_,_,hr1,h1,h4,h5,h6⟩
theorem jcc {w:World}{B n c:Nat}{A:Option Addr}{l:List UInt8}{o:Oper}{a:Act}{K:Act->World->Prop}{Q:Exit->Act->World->Prop}(s x:Operand)
  (ho:o.op= .call {callee:= .builtin .append,args:= #[s,x],argTypes:= #[105,105]})
  (hv:a.eval s= .slice A n c)(h:Gro w B A n c l)(hB:B<=w.heap.size)(hA:∀b o,A=some ⟨b,o,none⟩->B<=b∧b<w.heap.size)(A2:Option Addr)(m c2:Nat)(ys:List UInt8)(hx:a.eval x= .slice A2 m c2)(hs:Sl w 1 A2 m c2 (cells ys))(h47:n+m<=140737488355328)
  (hk:∀A' c' w',Gro w' B A' (n+m) c' (l++ys)->Fr (Blk A) w w' ->(A' =A∨A' =some ⟨w.heap.size,0,none⟩)->(∀b o,A' =some ⟨b,o,none⟩->B<=b∧b<w'.heap.size)->K (a.put o.dst (.slice A' (n+m) c')) w'):o.wp Tryz.prog a w K Q:=by
 obtain⟨A',c',w',hr,h2,h3,h4,h5⟩:=h.appendF hB hA hs h47 o.type;unfold Oper.wp execOp;simp only [ho,resolve,invoke,builtin,Sem.run_bind,Sem.run_pure,Result.andThen_ok,List.map_toArray,List.map_cons,List.map_nil,hv,hx,hr];exact hk A' c' w' h2 h3 h4 h5
theorem jjF (A:Option Addr)(n c:Nat)(l:List UInt8)(w:World)(h:Sl w 1 A n c (cells l))(h47:n<=140737488355328):
  Calls Tryz.prog 144 #[.slice A n c] w λ e w' =>∃A' c',e= .returned (.slice A' n c')∧Gro w' w.heap.size A' n c' l∧(∀b o,A' =some ⟨b,o,none⟩->w.heap.size<=b∧b<w'.heap.size)∧Below w.heap.size w w':=by
 have hne:=λ (W:World)=>Lib.run_eql_slice_nil (P:=Tryz.prog) W 105 5 A n c 0 0 Tryz.underlying105
 rcases A with _|ad
 ·have hl:l= []:=by
   rcases l with _|⟨u,r⟩
   ·rfl
   ·obtain⟨_,_,e,_⟩:=h.cell 0 (bv u) rfl
    cases e
  subst hl;obtain rfl:0=n:=by have:=h.len;simp [cells] at this;omega
  go_enter Tryz.func144,Tryz.ntmps144;go_wp2;go_ret;exact⟨none,0,rfl,Gro.nil _ _,λ b o e=>by(cases e),Below.refl _ _⟩
 ·have hb0:Below w.heap.size w (w.alloc (.cells #[] 5)):=(Below.refl _ _).alloc (Nat.le_refl _) _
  have hg0:Gro (w.alloc (.cells #[] 5)) w.heap.size (some ⟨w.heap.size,0,none⟩) 0 0 []:=⟨Sl.empty _ _ _ 0 (by decide), .inl ⟨rfl,rfl⟩⟩;obtain⟨w0,hw0⟩:∃x,x=w.alloc (.cells #[] 5):=⟨_,rfl⟩;have hz:w0.heap.size=w.heap.size+1:=by rw [hw0];simp
  have HZ:=qH hz;rw [<-hw0] at hb0 hg0;have HW0:=qH hw0;have HG0:=qH hg0;have HB0:=qH hb0;have HS:=qH (h.below hb0 (Nat.le_refl _));clear hw0 hg0 hb0 h hz;go_enter Tryz.func144,Tryz.ntmps144;go_wp2_with (at_builtin;rw [<-HW0.out];refine wpList_plain rfl λ _ hK=> ?_;refine jcc (o:=⟨some _,_,_,_,_,_⟩) (.tmp 5) (.tmp 6) rfl rfl HG0.out (by have:=HZ.out;omega) (λ b o e=>by injection e with e;injection e with e _;have:=HZ.out;omega) (some ad) n c l rfl HS.out (by omega) ?_;intro A' c' w' hg hf hor hlo;refine hK _ _ ?_);have HG:=qH hg;have HLO:=qH hlo;have HB:=qH (HB0.out.trans (hf.below (by have:=HZ.out;omega) (λ b ⟨o,e⟩=>by injection e with e;injection e with e _;omega)));clear hg hf hor hlo;go_wp2;go_ret;have h1:=HG.out;rw [Nat.zero_add,List.nil_append] at h1;exact⟨A',c',rfl,h1,HLO.out,HB.out⟩
theorem jlN {w w':World}{S:Nat->Prop}{B n c:Nat}{A:Option Addr}{xs:List Value}(h:w.ownsRow B 5 1 (.slice A n c) n xs)(hf:Fr S w w')(hS:∀b o,A=some ⟨b,o,none⟩->¬S b):w'.ownsRow B 5 1 (.slice A n c) n xs:=by
 refine⟨h.1,h.2.imp id λ ⟨g,cap,cur,hv,hb,hg,k1,k2,k3,k4⟩=>⟨g,cap,cur,hv,hb, ?_,k1,k2,k3,k4⟩⟩;injection hv with e _ _
 exact hf.row_some hg (hS g 0 e)
theorem Gro.fr17 {w w':World}{S:Nat->Prop}{B n c:Nat}{A:Option Addr}{l:List UInt8}(h:Gro w B A n c l)(hf:Fr S w w')(hS:∀b o,A=some ⟨b,o,none⟩->¬S b):Gro w' B A n c l:=⟨h.sl.fr hf (λ b o _ e=>hS b o e),h.own.imp id λ k=>jlN k hf hS⟩
structure Al17 (w:World)(B X:Nat)(l:List UInt8):Prop where
 ex:∃A c,w.heap[X]? =some (.cells #[.slice A l.length c] 105 (0,0))∧Gro w B A l.length c l∧∀b o,A=some ⟨b,o,none⟩->B<=b∧b≠X∧b<w.heap.size
 lo:B<=X
 len:l.length<=200000
theorem jd6 (B X x:Nat)(l:List UInt8)(hx:x<18446744073709551616)(w:World)(h:Al17 w B X l)(hB:B<=w.heap.size)(hl:l.length<=199990):
  Calls Tryz.prog 193 #[.int .u64 (x:Int), .pointer (some ⟨X,0,none⟩)] w λ e w' =>e= .returned (.tuple #[])∧Al17 w' B X (l++venc 9 x)∧Below B w w':=by
 obtain⟨⟨A,c,hbx,hg,hA⟩,hlo,_⟩:=h;have hv:=jan 9 x;have HXW:=qH (show w.drew.heap[X]? =_ from hbx);have HG:=qH (hg.later (Below.drew (Below.refl _ _)));have HB:=qH (show Below B w w.drew from Below.drew (Below.refl _ _));have HAW:=qH (show ∀b o,A=some ⟨b,o,none⟩->B<=b∧b≠X∧b<w.drew.heap.size from hA);clear hbx hg hA;go_enter Tryz.func193,Tryz.ntmps193;go_wp2_with fail;refine wp_region_held_drew (S:=λ w' =>Fr (λ b=>b=X∨Blk A b) w w') (by kernel_rfl) (Fr.drew (Fr.refl _ _)) (λ hHeld=> ?_);clear hHeld;have hHeld:Fr (λ b=>b=X∨Blk A b) w w.drew:=Fr.drew (Fr.refl _ _);have hz_0:w.heap.size<=w.drew.heap.size:=Nat.le_refl _;obtain⟨v_1,hw⟩:∃v_1,v_1=w.drew:=⟨_,rfl⟩;rw [<-hw] at hHeld hz_0 HXW HG HB HAW ⊢;clear hw;refine tA 1 (some 4) rfl hHeld ?_;refine wpAnyH_ready (rs:= [0,2]) (by kernel_rfl) (by simp) ?_
 refine AllReadyH.cons (o:=⟨some 3,_,_,_,_,_⟩) rfl (λ K hK=> ?_) (AllReadyH.cons (o:=⟨some 5,_,_,_,_,_⟩) rfl (λ K hK=> ?_) (AllReadyH.nil))
 ·have hq:v_1.cell? ⟨X,0,none⟩=some (.slice A l.length c):=cell_of_one HXW.out
  go_simp;refine hK.out _ _ hHeld λ _=> ?_
  clear hK K
  try simp only [Act.put,sA,sB,sC]
  refine rW 2 (some 5) rfl λ K hK=> ?_
  go_simp;have hp:=jdg none 0 0 [] x v_1 (Sl.nil v_1 1 0 (by decide)) (by decide) hx;rw [List.nil_append] at hp;refine hp.mono ?_;clear hp;rintro e v_3 ⟨A5,n5,c5,rfl,hs5,hb5⟩;have hfN:Fr (λ b=>b=X∨Blk A b) v_1 v_3:=Fr.of_below hb5;have hn5:=hs5.len;rw [jaa,Nat.mul_one] at hn5;have S5:=qH hs5;have HG:=qH (HG.out.later hb5);have HXW:=qH ((hb5.block X (block_lt HXW.out)).trans HXW.out);have HAW:=qH (show ∀b o,A=some ⟨b,o,none⟩->B<=b∧b≠X∧b<v_3.heap.size from λ b o e=>⟨(HAW.out b o e).1,(HAW.out b o e).2.1,Nat.lt_of_lt_of_le (HAW.out b o e).2.2 hb5.size⟩);have HB:=qH (HB.out.trans (hb5.mono (Nat.le_trans hB HB.out.size)));clear hs5 hb5;go_wp2_with fail;have hHeld:=hHeld.trans hfN;have hz_4:=hfN.size;refine hK.out _ _ hHeld λ _=> ?_
  clear hK K hfN
  try simp only [Act.put,sA,sB,sC]
  refine rW 3 (some 6) rfl λ K hK=> ?_
  refine jcc (o:=⟨some 6,_,_,_,_,_⟩) (.tmp 3) (.tmp 5) rfl rfl HG.out (Nat.le_trans hB HB.out.size) (λ b o e=>⟨(HAW.out b o e).1,(HAW.out b o e).2.2⟩) _ n5 _ (venc 9 x) rfl S5.out (by omega) ?_;intro A7 c7 w7 hg7 hf7 hor7 hlo7;have hfN:Fr (λ b=>b=X∨Blk A b) v_3 w7:=hf7.mono (λ b hb=> .inr hb);have X7:=qH (hf7.row_some HXW.out (λ hb=>by obtain⟨o,e⟩:=hb;exact(HAW.out _ _ e).2.1 rfl));have B7:=qH (HB.out.trans (hf7.below (Nat.le_trans hB HB.out.size) (λ b ⟨o,e⟩=>(HAW.out b o e).1)));have A7':=qH (show ∀b o,A7=some ⟨b,o,none⟩->B<=b∧b≠X∧b<w7.heap.size from λ b o e=>by
   refine⟨(hlo7 b o e).1, ?_,(hlo7 b o e).2⟩
   rcases hor7 with e2|e2
   ·rw [e2] at e;exact(HAW.out b o e).2.1
   ·rw [e2] at e
    injection e with e
    injection e with e _
    have:=block_lt HXW.out;omega)
  have G7:=qH hg7;have CX7:=qH (cell_of_one X7.out);have FX7:=qH (show w7.frozen? ⟨X,0,none⟩=false from frozen_of_row _ _ _ _ _ X7.out);clear hg7 hf7 hor7 hlo7;have hHeld:=hHeld.trans hfN;have hz_5:=hfN.size;refine hK.out _ _ hHeld λ _=> ?_
  clear hK K hfN
  try simp only [Act.put,sA,sB,sC]
  refine rW 4 none rfl λ K hK=> ?_
  have q0:=CX7.out;have q1:=FX7.out;go_simp;clear q0 q1;have hfN:Fr (λ b=>b=X∨Blk A b) w7 (w7.setCell ⟨X,0,none⟩ (.slice A7 (l.length+n5) c7)):=(Fr.refl (λ b=>b=X∨Blk A b) _).setCell (p:=⟨X,0,none⟩) (.inr (.inl rfl)) _;have hb8:=heap_setCell_same w7 X 0 _ _ (.slice A7 (l.length+n5) c7) X7.out;have hfx:Fr (λ b=>b=X) w7 (w7.setCell ⟨X,0,none⟩ (.slice A7 (l.length+n5) c7)):=(Fr.refl (λ b=>b=X) _).setCell (p:=⟨X,0,none⟩) (.inr rfl) _;have hll:(l++venc 9 x).length=l.length+n5:=by rw [List.length_append];omega
  have AL:=qH (show Al17 (w7.setCell ⟨X,0,none⟩ (.slice A7 (l.length+n5) c7)) B X (l++venc 9 x) from ⟨⟨A7,c7,by rw [hll];exact hb8,by rw [hll];exact G7.out.fr17 hfx (λ b o e=>(A7'.out b o e).2.1),λ b o e=>⟨(A7'.out b o e).1,(A7'.out b o e).2.1,Nat.lt_of_lt_of_le (A7'.out b o e).2.2 hfx.size⟩⟩,hlo,by rw [hll];omega⟩);have BL:=qH (B7.out.trans (hfx.below (Nat.le_trans hB B7.out.size) (λ b hb=>by have hb:b=X:=hb;omega)));obtain⟨w8,hw8⟩:∃y,y=w7.setCell ⟨X,0,none⟩ (.slice A7 (l.length+n5) c7):=⟨_,rfl⟩;rw [<-hw8] at hfN AL BL ⊢;clear hw8 hb8 hfx;have hHeld:=hHeld.trans hfN;have hz_6:=hfN.size;refine hK.out _ _ hHeld λ _=> ?_
  clear hK K hfN
  try simp only [Act.put,sA,sB,sC]
  refine tD ?_;clear hHeld;go_wp2_with fail;go_end0;exact⟨rfl,AL.out,BL.out⟩
 ·go_simp
  have hp:=jdg none 0 0 [] x v_1 (Sl.nil v_1 1 0 (by decide)) (by decide) hx;rw [List.nil_append] at hp;refine hp.mono ?_;clear hp;rintro e v_7 ⟨A5,n5,c5,rfl,hs5,hb5⟩;have hfN:Fr (λ b=>b=X∨Blk A b) v_1 v_7:=Fr.of_below hb5;have hn5:=hs5.len;rw [jaa,Nat.mul_one] at hn5;have S5:=qH hs5;have HG:=qH (HG.out.later hb5);have HXW:=qH ((hb5.block X (block_lt HXW.out)).trans HXW.out);have HAW:=qH (show ∀b o,A=some ⟨b,o,none⟩->B<=b∧b≠X∧b<v_7.heap.size from λ b o e=>⟨(HAW.out b o e).1,(HAW.out b o e).2.1,Nat.lt_of_lt_of_le (HAW.out b o e).2.2 hb5.size⟩);have HB:=qH (HB.out.trans (hb5.mono (Nat.le_trans hB HB.out.size)));clear hs5 hb5;go_wp2_with fail;have hHeld:=hHeld.trans hfN;have hz_8:=hfN.size;refine hK.out _ _ hHeld λ _=> ?_
  clear hK K hfN
  try simp only [Act.put,sA,sB,sC]
  refine rW 0 (some 3) rfl λ K hK=> ?_
  have hq:v_7.cell? ⟨X,0,none⟩=some (.slice A l.length c):=cell_of_one HXW.out;go_simp;refine hK.out _ _ hHeld λ _=> ?_
  clear hK K
  try simp only [Act.put,sA,sB,sC]
  refine rW 3 (some 6) rfl λ K hK=> ?_
  refine jcc (o:=⟨some 6,_,_,_,_,_⟩) (.tmp 3) (.tmp 5) rfl rfl HG.out (Nat.le_trans hB HB.out.size) (λ b o e=>⟨(HAW.out b o e).1,(HAW.out b o e).2.2⟩) _ n5 _ (venc 9 x) rfl S5.out (by omega) ?_;intro A7 c7 w7 hg7 hf7 hor7 hlo7;have hfN:Fr (λ b=>b=X∨Blk A b) v_7 w7:=hf7.mono (λ b hb=> .inr hb);have X7:=qH (hf7.row_some HXW.out (λ hb=>by obtain⟨o,e⟩:=hb;exact(HAW.out _ _ e).2.1 rfl));have B7:=qH (HB.out.trans (hf7.below (Nat.le_trans hB HB.out.size) (λ b ⟨o,e⟩=>(HAW.out b o e).1)));have A7':=qH (show ∀b o,A7=some ⟨b,o,none⟩->B<=b∧b≠X∧b<w7.heap.size from λ b o e=>by
   refine⟨(hlo7 b o e).1, ?_,(hlo7 b o e).2⟩
   rcases hor7 with e2|e2
   ·rw [e2] at e;exact(HAW.out b o e).2.1
   ·rw [e2] at e
    injection e with e
    injection e with e _
    have:=block_lt HXW.out;omega)
  have G7:=qH hg7;have CX7:=qH (cell_of_one X7.out);have FX7:=qH (show w7.frozen? ⟨X,0,none⟩=false from frozen_of_row _ _ _ _ _ X7.out);clear hg7 hf7 hor7 hlo7;have hHeld:=hHeld.trans hfN;have hz_9:=hfN.size;refine hK.out _ _ hHeld λ _=> ?_
  clear hK K hfN
  try simp only [Act.put,sA,sB,sC]
  refine rW 4 none rfl λ K hK=> ?_
  have q0:=CX7.out;have q1:=FX7.out;go_simp;clear q0 q1;have hfN:Fr (λ b=>b=X∨Blk A b) w7 (w7.setCell ⟨X,0,none⟩ (.slice A7 (l.length+n5) c7)):=(Fr.refl (λ b=>b=X∨Blk A b) _).setCell (p:=⟨X,0,none⟩) (.inr (.inl rfl)) _;have hb8:=heap_setCell_same w7 X 0 _ _ (.slice A7 (l.length+n5) c7) X7.out;have hfx:Fr (λ b=>b=X) w7 (w7.setCell ⟨X,0,none⟩ (.slice A7 (l.length+n5) c7)):=(Fr.refl (λ b=>b=X) _).setCell (p:=⟨X,0,none⟩) (.inr rfl) _;have hll:(l++venc 9 x).length=l.length+n5:=by rw [List.length_append];omega
  have AL:=qH (show Al17 (w7.setCell ⟨X,0,none⟩ (.slice A7 (l.length+n5) c7)) B X (l++venc 9 x) from ⟨⟨A7,c7,by rw [hll];exact hb8,by rw [hll];exact G7.out.fr17 hfx (λ b o e=>(A7'.out b o e).2.1),λ b o e=>⟨(A7'.out b o e).1,(A7'.out b o e).2.1,Nat.lt_of_lt_of_le (A7'.out b o e).2.2 hfx.size⟩⟩,hlo,by rw [hll];omega⟩);have BL:=qH (B7.out.trans (hfx.below (Nat.le_trans hB B7.out.size) (λ b hb=>by have hb:b=X:=hb;omega)));obtain⟨w8,hw8⟩:∃y,y=w7.setCell ⟨X,0,none⟩ (.slice A7 (l.length+n5) c7):=⟨_,rfl⟩;rw [<-hw8] at hfN AL BL ⊢;clear hw8 hb8 hfx;have hHeld:=hHeld.trans hfN;have hz_10:=hfN.size;refine hK.out _ _ hHeld λ _=> ?_
  clear hK K hfN
  try simp only [Act.put,sA,sB,sC]
  refine tD ?_;clear hHeld;go_wp2_with fail;go_end0;exact⟨rfl,AL.out,BL.out⟩
theorem jjG (z:Int)(w:World):Calls Tryz.prog 232 #[.int .i64 z] w λ e w' =>e= .returned (.bool (decide (z<0)))∧w' =w:=by
 by_cases c:z<0
 ·rw [decide_eq_true c]
  go_enter Tryz.func232,Tryz.ntmps232;go_wp2_with fail;go_ret;exact⟨rfl,rfl⟩
 ·rw [decide_eq_false c]
  go_enter Tryz.func232,Tryz.ntmps232;go_wp2_with fail;go_ret;exact⟨rfl,rfl⟩
theorem jlO (A:Option Addr)(n c:Nat)(l:List Int)(w:World)(h:Sl w 1 A n c (jau l))(hz:∀z∈l,0<=z):
  Calls Tryz.prog 192 #[.slice A n c] w λ e w' =>e= .returned (.bool false)∧w' =w:=by
 have hc:=jdo 232 (enters_of Tryz.func232 (by kernel_rfl) rfl) (λ p=>decide (p<0)) A n c l w h (λ z _=>jjG z w);have e:(l.any λ p=>decide (p<0))=false:=by
  rw [List.any_eq_false];intro z hz';rw [decide_eq_false (by have:=hz z hz';omega)]
  decide
 rw [e] at hc;clear h e hz;go_enter Tryz.func192,Tryz.ntmps192;go_wp2_with fail;refine hc.mono ?_;clear hc;rintro e w' ⟨rfl,rfl⟩;go_wp2_with fail;go_ret;exact⟨rfl,rfl⟩
def jbU (q:Int)(g:Nat)(ps:List Int):List UInt8:=venc 9 q.toNat++venc 9 g++venc 9 ps.length++ps.flatMap λ p=>venc 9 p.toNat
theorem jin (ps:List Int):(ps.flatMap λ p=>venc 9 p.toNat).length<=ps.length*10:=by
 induction ps with
 |nil=>simp
 |cons p r ih=>rw [List.flatMap_cons,List.length_append,List.length_cons,Nat.add_mul];have:=jan 9 p.toNat;omega
def BlB (w:World)(B:Nat)(A:Option Addr)(n c g:Nat)(q:Int):Prop:=w.heap[B]? =some (.cells #[.slice A n c, .int .u64 (g:Int), .int .i64 q] 142 (0,0))
section
variable {w w':World}{B n c g:Nat}{A:Option Addr}{q:Int}
theorem BlB.c0 (h:BlB w B A n c g q):w.cell? ⟨B,0,none⟩=some (.slice A n c):=by rw [cell_of_row _ _ _ _ _ _ h];rfl
theorem BlB.c1 (h:BlB w B A n c g q):w.cell? ⟨B,1,none⟩=some (.int .u64 (g:Int)):=by rw [cell_of_row _ _ _ _ _ _ h];rfl
theorem BlB.c2 (h:BlB w B A n c g q):w.cell? ⟨B,2,none⟩=some (.int .i64 q):=by rw [cell_of_row _ _ _ _ _ _ h];rfl
theorem BlB.later (h:BlB w B A n c g q)(hb:Below w.heap.size w w'):BlB w' B A n c g q:=(hb.block _ (block_lt h)).trans h
theorem BlB.up (h:BlB w B A n c g q){C:Nat}(hb:Below C w w')(hC:B<C):BlB w' B A n c g q:=(hb.block _ hC).trans h
end
theorem jlP (A:Option Addr)(n c:Nat)(l:List UInt8)(PA:Option Addr)(pc g:Nat)(q:Int)(ps:List Int)(hn:n<=100000)(hl:ps.length<=600)(hq:0<=q∧q<9223372036854775808)(hg:g<18446744073709551616)(hp:∀x∈ps,0<=x∧x<9223372036854775808)(w:World)(hs:Sl w 1 A n c (cells l))(hps:Sl w 1 PA ps.length pc (jau ps)):
  Calls Tryz.prog 133 #[.slice A n c, .agg #[.slice PA ps.length pc, .int .u64 (g:Int), .int .i64 q]] w (jdA w.heap.size w (l++jbU q g ps)):=by
 have hln:=hs.len;rw [jaa,Nat.mul_one] at hln;have HLN:=qH hln;have HP:=qH hp;obtain⟨q,rfl⟩:=Int.eq_ofNat_of_zero_le hq.1;obtain⟨m,hm⟩:∃m,m=ps.length:=⟨_,rfl⟩;rw [<-hm] at hl hps ⊢;have HM:=qH hm;have hq2:q<9223372036854775808:=by omega
 have hba:Below w.heap.size w (w.alloc (.cells #[.slice PA m pc, .int .u64 (g:Int), .int .i64 (q:Int)] 142)):=(Below.refl _ _).alloc (Nat.le_refl _) _;have hxa:BlB (w.alloc (.cells #[.slice PA m pc, .int .u64 (g:Int), .int .i64 (q:Int)] 142)) w.heap.size PA m pc g (q:Int):=heap_alloc_new w _;obtain⟨wa,hwa⟩:∃x,x=w.alloc (.cells #[.slice PA m pc, .int .u64 (g:Int), .int .i64 (q:Int)] 142):=⟨_,rfl⟩;have HWA:=qH hwa;rw [<-hwa] at hba hxa;have hcl:=jjF A n c l wa (hs.below hba (Nat.le_refl _)) (by omega);have e1:IntKind.u64.wrap (q:Int)=(q:Int):=by rw [IntKind.wrap_u64];omega
 have e2:IntKind.u64.wrap (m:Int)=(m:Int):=by rw [IntKind.wrap_u64];omega
 have E2:=qH e2;have XA:=qH hxa;have BA:=qH hba;have HS:=qH hps;have q0:decide ((q:Int)<0)=false:=by simp
 have hm63:m<=600:=hl;clear hba hxa hwa hs hps hp hq hln hm e2;go_enter Tryz.func133,Tryz.ntmps133;go_wp2_with (rw [<-HWA.out]);refine hcl.mono ?_;clear hcl;rintro e w1 ⟨A1,c1,rfl,hg1,hlo1,hb1⟩;obtain⟨B,hB⟩:∃B,B=w.heap.size:=⟨_,rfl⟩;have hBa:B<wa.heap.size:=by rw [hB];exact block_lt XA.out
 have hb2:Below w1.heap.size w1 (w1.alloc (.cells #[.slice A1 n c1] 105)):=(Below.refl _ _).alloc (Nat.le_refl _) _;have hx2:=heap_alloc_new w1 (.cells #[.slice A1 n c1] 105);obtain⟨w2,hw2⟩:∃x,x=w1.alloc (.cells #[.slice A1 n c1] 105):=⟨_,rfl⟩;have HW2:=qH hw2;rw [<-hw2] at hb2 hx2;have AL2:=qH (show Al17 w2 wa.heap.size w1.heap.size l from ⟨⟨A1,c1,by rw [HLN.out];exact hx2,by rw [HLN.out];exact hg1.later hb2,λ b o e=>⟨(hlo1 b o e).1,by have:=(hlo1 b o e).2;omega,Nat.lt_of_lt_of_le (hlo1 b o e).2 hb2.size⟩⟩,hb1.size,by rw [HLN.out];omega⟩);have B2:=qH (hb1.trans (hb2.mono hb1.size));have X2:=qH ((XA.out.later hb1).later hb2);rw [<-hB] at X2 ⊢;have HBB:=qH hB;have HBA:=qH hBa;have c2:=X2.out.c2;have c0:=X2.out.c0;have hbel:=jlO PA m pc ps w2 (HS.out.below (BA.out.trans (B2.out.mono BA.out.size)) (Nat.le_refl _)) (λ z hz=>(HP.out z hz).1);obtain⟨X,hX⟩:∃X,X=w1.heap.size:=⟨_,rfl⟩
 have HXX:=qH hX;clear hb1 hlo1 hg1 hb2 hx2 hw2 hB hBa;go_wp2_with (rw [<-HW2.out]);refine hbel.mono ?_;clear hbel;rintro e w3 ⟨rfl,hw3⟩;obtain rfl:w2=w3:=hw3.symm;rw [<-hX] at AL2 ⊢;clear hX;have hz2:wa.heap.size<=w2.heap.size:=B2.out.size;have h4:=jd6 wa.heap.size X q l (by omega) w2 AL2.out hz2 (by rw [HLN.out];omega);go_wp2_with fail;refine h4.mono ?_;clear h4;rintro e w4 ⟨rfl,hal,hb⟩;have AL4:=qH hal;have B4:=qH (B2.out.trans hb);have X4:=qH (X2.out.up hb HBA.out);have c1:=X4.out.c1;have hz4:wa.heap.size<=w4.heap.size:=B4.out.size;have h5:=jd6 wa.heap.size X g _ hg w4 AL4.out hz4 (by have:=jan 9 q;rw [List.length_append,HLN.out];omega);clear hal hb AL2 c2 c0;go_wp2_with fail;refine h5.mono ?_;clear h5;rintro e w5 ⟨rfl,hal,hb⟩;have AL5:=qH hal;have B5:=qH (B4.out.trans hb);have X5:=qH (X4.out.up hb HBA.out);have c0:=X5.out.c0
 have hz5:wa.heap.size<=w5.heap.size:=B5.out.size;have e2:=E2.out;have h6:=jd6 wa.heap.size X m _ (by omega) w5 AL5.out hz5 (by have:=jan 9 q;have:=jan 9 g;simp only [List.length_append,HLN.out];omega);clear hal hb AL4 c1 X4 B4 hz4;go_wp2_with fail;refine h6.mono ?_;clear h6;rintro e w6 ⟨rfl,hal,hb⟩;have AL6:=qH hal;have B6:=qH (B5.out.trans hb);have X6:=qH (X5.out.up hb HBA.out);have c0:=X6.out.c0;clear hal hb AL5 X5 B5 hz5 e2;go_wp2_with fail;go_loopw [39] (λ iv wr=>∃i:Nat,i<=m∧iv= .int .i64 (i:Int)∧Al17 wr wa.heap.size X (l++venc 9 q++venc 9 g++venc 9 m ++(ps.take i).flatMap (λ p=>venc 9 p.toNat))∧Below wa.heap.size wa wr) (λ iv _=>m-(intOf iv).toNat)
 case atStart=>exact⟨0,by omega,rfl,by simpa using AL6.out,B6.out⟩
 case round=>
  obtain⟨i,hi,rfl,hal,hb⟩:=hrel;have AL:=qH hal;have BL:=qH hb;clear hal hb AL6 X6 B6
  by_cases hlt:i<m
  ·have hii:(i:Int)<(m:Int):=by omega
   have hip:i<ps.length:=by rw [<-HM.out];exact hlt
   have sl:=HS.out.below (BA.out.trans (BL.out.mono BA.out.size)) (Nat.le_refl _);obtain⟨b1,o1,rfl,hc⟩:=sl.at_ hlt;have hcell:=hc i _ (jcg ps i hip);have hpx:=HP.out ps[i] (List.getElem_mem hip);have htk:ps.take (i+1)=ps.take i ++ [ps[i]]:=(List.take_append_getElem hip).symm;have hfl:=jin (ps.take i);rw [List.length_take] at hfl;obtain⟨y,hy⟩:=Int.eq_ofNat_of_zero_le hpx.1;rw [hy] at hcell hpx htk;have HTK:=qH htk;have e3:IntKind.u64.wrap (y:Int)=(y:Int):=by rw [IntKind.wrap_u64];omega
   have h7:=jd6 wa.heap.size X y _ (by omega) wr AL.out BL.out.size (by have:=jan 9 q;have:=jan 9 g;have:=jan 9 m;simp only [List.length_append,HLN.out];omega);clear hc hy htk sl c0 hfl;go_wp2_with fail;refine h7.mono ?_;clear h7;rintro e w8 ⟨rfl,hal,hb⟩;have AL8:=qH hal;have B8:=qH (BL.out.trans hb);clear hal hb;go_wp2_with fail;go_roundw
   case rel=>
    refine⟨i+1,by omega,by go_num, ?_,B8.out⟩;rw [HTK.out,List.flatMap_append,<-List.append_assoc]
    simpa using AL8.out
   case measure=>simp [intOf];omega
  ·obtain rfl:m=i:=by omega
   obtain⟨A9,c9,hx9,hg9,_⟩:=AL.out.ex;obtain⟨N9,hN9⟩:∃N,N=(l++venc 9 q++venc 9 g++venc 9 m ++(ps.take m).flatMap (λ p=>venc 9 p.toNat)).length:=⟨_,rfl⟩;rw [<-hN9] at hx9 hg9;have q9:=cell_of_one hx9;have HR9:=qH hg9;clear hx9 hg9 c0 hN9;go_wp2_with fail;go_ret;have h1:=HR9.out.sl;have e:l++venc 9 q++venc 9 g++venc 9 m ++(ps.take m).flatMap (λ p=>venc 9 p.toNat)=l++jbU (q:Int) g ps:=by
    rw [jbU,List.take_of_length_le (by rw [<-HM.out];exact Nat.le_refl _),Int.toNat_natCast,<-HM.out];simp only [List.append_assoc]
   rw [e] at h1;exact⟨A9,N9,c9,rfl,h1,BA.out.trans (BL.out.mono BA.out.size)⟩
end
section
open Go.RowKit Go.Proofs
set_option maxRecDepth 20000
set_option maxHeartbeats 1600000
def jqp (B:Nat)(w:World)(l:List UInt8)(e:Ending)(w':World):Prop:=∃A n,e= .returned (.slice A n n)∧Sl w' 1 A n n (cells l)∧Below B w w'
theorem joc (A:Option Addr)(n c:Nat)(l:List UInt8)(t:ByteArray)(w:World)(h:Sl w 1 A n c (cells l))(h47:n+t.size<=140737488355200):
  Calls Tryz.prog 132 #[.slice A n c, .string t] w (jqp w.heap.size w (l++venc 9 t.size++t.data.toList)):=by
 have hlo:Calls Tryz.prog 191 #[.slice A n c, .string t] w (jqp w.heap.size w (l++venc 9 t.size++t.data.toList)):=by
  go_enter Tryz.func191,Tryz.ntmps191;go_wp2_with fail;refine(jc4 A n c h.cap h.top _).mono ?_;rintro e w' ⟨rfl,rfl⟩;go_wp2_with fail;refine(jd0 A n n w.heap.size l t.size _ (Own.full (h.recap (Nat.le_refl _) h.lim)) (Nat.le_refl _) (by omega) (by omega)).mono ?_;rintro e w1 ⟨A1,n1,c1,rfl,h1,hb⟩;have hl1:n1<=n+10:=by
   have a:=h1.sl.len;have b:=h.len;have d:=jan 9 t.size;rw [jaa,List.length_append] at a;rw [jaa] at b;omega
  have hz:=hb.size;go_wp2_with (at_builtin;refine je2 (B:=w.heap.size) rfl (.tmp 10) (.tmp 11) rfl rfl h1 hz t rfl ?c3 ?c4)
  case c3=>omega
  intro A2 c2 w2 ho2 hb2;go_wp2_with fail;refine(jc4 A2 (n1+t.size) c2 ho2.sl.cap ho2.sl.top _).mono ?_;rintro e w' ⟨rfl,rfl⟩;go_wp2_with fail;go_ret;exact⟨A2,n1+t.size,rfl,by rw [jai (l++venc 9 t.size)];exact ho2.sl.recap (Nat.le_refl _) ho2.sl.lim,hb.trans hb2⟩
 go_enter Tryz.func132,Tryz.ntmps132;go_wp2_with fail;refine hlo.mono ?_;clear hlo;rintro e w1 ⟨A1,n1,rfl,h1,hb⟩;go_wp2_with fail;go_ret;exact⟨A1,n1,rfl,h1,hb⟩
def chB (x:ChF):List UInt8:=venc 9 x.key.size++x.key.data.toList ++(if x.dead then [1] else 0::jbU x.q x.g x.ps)
def putR (st:Nat)(cs:List ChF):List UInt8:=venc 9 st++venc 9 cs.length++cs.flatMap chB
theorem jfS:∀(l:List ChF) (a:ByteArray),okCs a l=true->∀x∈l,okC x=true∧x.key.size<=16
 | [],_,_,x,hx=>by cases hx
 |y::r,a,h,x,hx=>by
  rw [okCs,Bool.and_eq_true,Bool.and_eq_true,Bool.and_eq_true] at h
  rcases List.mem_cons.1 hx with rfl|hx
  ·exact⟨h.2.2.1,of_decide_eq_true h.2.1⟩
  ·exact jfS r y.key h.2.2.2 x hx
theorem jio {x:ChF}(h:okC x=true)(hd:x.dead=false):0<=x.q∧x.q<=400∧x.ps.length<=400∧∀p∈x.ps,0<=p∧p<=599:=by
 unfold okC at h;rw [hd,if_neg (by decide),Bool.and_eq_true] at h;have h1:=h.1;have h2:=h.2;simp only [Bool.not_eq_true',Bool.or_eq_false_iff,decide_eq_false_iff_not] at h1;rw [Bool.not_eq_true',List.any_eq_false] at h2;refine⟨by omega,by omega,by omega,λ p hp=> ?_⟩;have:=h2 p hp;simp only [Bool.or_eq_true,decide_eq_true_eq] at this;omega
theorem jrC {x:ChF}(h:okC x=true)(hk:x.key.size<=16):(chB x).length<=4100:=by
 have h1:=jan 9 x.key.size;have h2:x.key.data.toList.length=x.key.size:=Array.length_toList;unfold chB;rw [List.length_append,List.length_append,h2]
 cases hd:x.dead
 ·obtain⟨_,_,hl,_⟩:=jio h hd
  have h3:=jin x.ps;have h4:=jan 9 x.q.toNat;have h5:=jan 9 x.g;have h6:=jan 9 x.ps.length;rw [if_neg (by decide),List.length_cons,jbU,List.length_append,List.length_append,List.length_append];omega
 ·rw [if_pos rfl]
  simp;omega
theorem jap {ρ:Operand->Value}{o:Oper}{x:Operand}{w:World}{B st n c:Nat}{A:Option Addr}(ho:o.op= .load 42 x)(hx:ρ x= .pointer (some ⟨B,0,none⟩))(h:ReB w B st A n c):(execOp ρ o).run Tryz.prog w= .ok (.value (.agg #[.int .u64 (st:Int), .slice A n c])) w:=by
 unfold execOp;simp only [ho,hx,Instr.loadAt,Instr.sureAddr,Sem.run_bind,Sem.run_pure,Result.andThen_ok,run_loadVar_row w B _ 42 #[.int .u64 (st:Int), .slice A n c] (0,0) _ h Tryz.underlying42 rfl (show _=some 2 by kernel_rfl)]
theorem jhh {ρ:Operand->Value}{o:Oper}{x:Operand}{w:World}{B:Nat}{v:CvF}(ho:o.op= .load 142 x)(hx:ρ x= .pointer (some ⟨B,2,none⟩))(h:CvB w B v):(execOp ρ o).run Tryz.prog w= .ok (.value (.agg #[.slice v.A v.x.ps.length v.c, .int .u64 (v.x.g:Int), .int .i64 v.x.q])) w:=by
 have hr:w.rangeAt B 2 [.slice v.A v.x.ps.length v.c, .int .u64 (v.x.g:Int), .int .i64 v.x.q]:=λ j u hu=>by
  rcases j with _|_|_|j
  ·simp at hu;subst hu;exact h.c2
  ·simp at hu;subst hu;exact h.c3
  ·simp at hu;subst hu;exact h.c4
  ·simp at hu
 unfold execOp;simp only [ho,hx,Instr.loadAt,Instr.sureAddr,Sem.run_bind,Sem.run_pure,Result.andThen_ok,run_loadVar_mid w B 2 142 _ _ hr Tryz.underlying142 rfl (jku _ _ _ _ _)]
theorem jip (st:Nat)(A:Option Addr)(n c:Nat)(l:List CvF)(w:World)(h:Chs w A n c l)(hr:okR (l.map CvF.x)=false):Calls Tryz.prog 86 #[.agg #[.int .u64 (st:Int), .slice A n c]] w λ e w' =>e= .returned (.tuple #[.slice none 0 0, .int .i64 2])∧Below w.heap.size w w':=by
 have hb1:Below w.heap.size w (w.alloc (.cells #[.int .u64 (st:Int), .slice A n c] 42)):=(Below.refl _ _).alloc (Nat.le_refl _) _;have hx:=ReB.new (w:=w) (st:=st) (A:=A) (n:=n) (c:=c);obtain⟨wa,hwa⟩:∃x,x=w.alloc (.cells #[.int .u64 (st:Int), .slice A n c] 42):=⟨_,rfl⟩;have HWA:=qH hwa;rw [<-hwa] at hb1 hx;have hri:=jeM st A n c l wa (h.below hb1);rw [hr] at hri;have X:=qH hx;have HB:=qH hb1;clear hb1 hx h hr hwa;go_enter Tryz.func86,Tryz.ntmps86;go_wp2_with (first|(rw [<-HWA.out])|(refine jaj (d:=7) ?_;refine jad (o:=⟨some 7,_,_,_,_,_⟩) (by rfl) _ _ (jap rfl rfl X.out) ?_));refine hri.mono ?_;clear hri;rintro e w2 ⟨rfl,hb2⟩;have B2:=qH (HB.out.trans (hb2.mono HB.out.size));clear hb2;go_wp2_with fail;go_ret2;exact⟨rfl,B2.out⟩
theorem jhi (st:Nat)(hst:st<18446744073709551616)(A:Option Addr)(n c:Nat)(l:List CvF)(w:World)(h:Chs w A n c l)(hr:okR (l.map CvF.x)=true)(hg:∀v∈l,v.x.g<18446744073709551616):Calls Tryz.prog 86 #[.agg #[.int .u64 (st:Int), .slice A n c]] w λ e w' =>∃A' n' c',e= .returned (.tuple #[.slice A' n' c', .int .i64 0])∧Sl w' 1 A' n' c' (cells (putR st (l.map CvF.x)))∧Below w.heap.size w w':=by
 have hb1:Below w.heap.size w (w.alloc (.cells #[.int .u64 (st:Int), .slice A n c] 42)):=(Below.refl _ _).alloc (Nat.le_refl _) _;have hx:=ReB.new (w:=w) (st:=st) (A:=A) (n:=n) (c:=c);obtain⟨wa,hwa⟩:∃x,x=w.alloc (.cells #[.int .u64 (st:Int), .slice A n c] 42):=⟨_,rfl⟩;have HWA:=qH hwa;rw [<-hwa] at hb1 hx;have hri:=jeM st A n c l wa (h.below hb1);rw [hr] at hri;have hok:∀v∈l,okC v.x=true∧v.x.key.size<=16:=λ v hv=>by
  unfold okR at hr;rw [Bool.and_eq_true] at hr;exact jfS _ _ hr.2 v.x (List.mem_map.2 ⟨v,hv,rfl⟩)
 have hn16:n<=16:=by
  unfold okR at hr;rw [Bool.and_eq_true,List.length_map,h.len] at hr;exact of_decide_eq_true hr.1
 have hp1:=λ W=>jdg none 0 0 [] st W (Sl.nil W 1 0 (by decide)) (by decide) hst
 have OK:=qH hok;have HG:=qH hg;have X:=qH hx;have HB:=qH hb1;have HC:=qH h;have c0:=hx.c0;have e2:IntKind.u64.wrap (n:Int)=(n:Int):=by rw [IntKind.wrap_u64];omega
 clear hb1 hx h hr hwa hok hg;go_enter Tryz.func86,Tryz.ntmps86;go_wp2_with (first|(rw [<-HWA.out])|(refine jaj (d:=7) ?_;refine jad (o:=⟨some 7,_,_,_,_,_⟩) (by rfl) _ _ (jap rfl rfl X.out) ?_));refine hri.mono ?_;clear hri;rintro e w2 ⟨rfl,hb2⟩;have B2:=qH (HB.out.trans (hb2.mono HB.out.size));have X2:=qH (X.out.later hb2);have d0:=X2.out.c0;clear hb2;go_wp2_with fail;refine(hp1 w2).mono ?_;rintro e w3 ⟨A3,n3,c3,rfl,hs3,hb3⟩;rw [List.nil_append] at hs3;have hl3:=hs3.len;rw [jaa,Nat.mul_one] at hl3;have hv3:=jan 9 st;have B3:=qH (B2.out.trans (hb3.mono B2.out.size));have X3:=qH (X2.out.later hb3);have d1:=X3.out.c1;have hp2:=jdg A3 n3 c3 _ n w3 hs3 (by omega) (by omega);clear hs3 hb3 d0 hp1;go_wp2_with fail;refine hp2.mono ?_;clear hp2;rintro e w4 ⟨A4,n4,c4,rfl,hs4,hb4⟩;have B4:=qH (B3.out.trans (hb4.mono B3.out.size))
 have X4:=qH (X3.out.later hb4);have d1:=X4.out.c1;have S4:=qH hs4;have HL4:=qH (show (venc 9 st++venc 9 n).length<=20 from by rw [List.length_append];have:=jan 9 n;omega);clear hs4 hb4 hl3 hv3 e2;go_wp2_with fail;go_loopw [4,22] (λ tv iv wr=>∃(i:Nat) (A5:Option Addr) (n5 c5:Nat),tv= .slice A5 n5 c5∧iv= .int .i64 (i:Int)∧i<=n∧Sl wr 1 A5 n5 c5 (cells (venc 9 st++venc 9 n ++((l.take i).map CvF.x).flatMap chB))∧Below w.heap.size w wr∧(venc 9 st++venc 9 n ++((l.take i).map CvF.x).flatMap chB).length<=20+i*4100) (λ _ iv _=>n-(intOf iv).toNat)
 case atStart=>exact⟨0,A4,n4,c4,rfl,rfl,by omega,by simpa using S4.out,B4.out,by simpa using HL4.out⟩
 case round=>
  obtain⟨i,A5,n5,c5,rfl,rfl,hi,hs5,hbe,hln⟩:=hrel;have S5:=qH hs5;have BE:=qH hbe;clear hbe X4 d1 c0 S4
  by_cases hlt:i<n
  ·have hii:(i:Int)<(n:Int):=by omega
   obtain⟨v,hv⟩:∃v,l[i]? =some v:=⟨_,List.getElem?_eq_getElem (by rw [HC.out.len];exact hlt)⟩;have hvm:=List.mem_of_getElem? hv;obtain⟨hok,hks⟩:=OK.out v hvm;have hgv:=HG.out v hvm;have htk:((l.take (i+1)).map CvF.x).flatMap chB=((l.take i).map CvF.x).flatMap chB++chB v.x:=by
    rw [List.take_add_one,hv,List.map_append,List.flatMap_append];simp
   have hcl5:=jrC hok hks;have hl5:=hs5.len;rw [jaa,Nat.mul_one] at hl5;obtain⟨b,o,rfl,hcl,hvo⟩:=(HC.out.below BE.out).cell i v hv;have RA:=qH (jeZ hcl);have hb2:Below wr.heap.size wr (wr.alloc (.cells v.vals.toArray 144)):=(Below.refl _ _).alloc (Nat.le_refl _) _;have hx2:=CvB.new (w:=wr) (v:=v);obtain⟨w5,hw5⟩:∃x,x=wr.alloc (.cells v.vals.toArray 144):=⟨_,rfl⟩;have HW5:=qH hw5;rw [<-hw5] at hb2 hx2;have k0:=hx2.c0;have X5:=qH hx2;have B5:=qH (BE.out.trans (hb2.mono BE.out.size));have hpt:=joc A5 n5 c5 _ v.x.key w5 (hs5.below hb2 (Nat.le_refl _)) (by omega);have HV:=qH (hvo.below hb2);have HSZ:=qH (jfO v);have HSL:=qH (show (Tryz.prog.info? 144).map (·.size)=some v.vals.length from HSZ.out);have HON:=qH (jkt v);have TK:=qH htk;have CL:=qH hcl5;have LN:=qH hln;have OKV:=qH hok;have L5:=qH hl5;clear hb2 hx2 hw5 hcl hvo htk hcl5 hln hok hs5 hl5
   go_wp2_with (first|(rw [<-HW5.out])|(refine jaj (d:=25) ?_;refine wpList_load_mid (op:=⟨some 25,_,_,_,_,_⟩) rfl 144 (.tmp 24) rfl b (o+i*5) rfl _ _ RA.out Tryz.underlying144 rfl HSL.out ?_)|(refine jax ?_;refine jam (o:=⟨none,_,_,_,_,_⟩) rfl 144 (.tmp 6) (.tmp 25) rfl wr _ v.vals.toArray 144 rfl rfl HSZ.out rfl HON.out ?_;rw [<-HW5.out]));refine hpt.mono ?_;clear hpt;rintro e w6 ⟨A6,n6,rfl,hs6,hb6⟩;have B6:=qH (B5.out.trans (hb6.mono B5.out.size));have X6:=qH (X5.out.later hb6);have k1:=X6.out.c1;have S6:=qH hs6;have V6:=qH (HV.out.below hb6);have hl6:=hs6.len;rw [jaa,Nat.mul_one] at hl6;have L6:=qH hl6;obtain⟨T,hT⟩:∃T,T=venc 9 st++venc 9 n ++((l.take i).map CvF.x).flatMap chB:=⟨_,rfl⟩;have HT:=qH hT;rw [<-hT] at S6 LN L6;have hn6:n6<=90000:=by
    have h1:=L6.out;have h2:=LN.out;have h3:=jan 9 v.x.key.size;have h4:v.x.key.data.toList.length=v.x.key.size:=Array.length_toList;rw [List.length_append,List.length_append] at h1;omega
   clear hs6 hb6 k0 hl6 hT
   cases hd:v.x.dead
   ·rw [hd] at k1
    have HD:=qH hd;obtain⟨hq0,hq1,hpl,hpp⟩:=jio OKV.out hd;clear hd;go_wp2_with fail;obtain⟨i0,hi0,hz0,hz1,hz2⟩:=info_parts jbf;refine wp_region_held_drew (S:=λ w' =>Fr (λ k=>w6.heap.size<=k) w6.drew w') (by kernel_rfl) (Fr.refl _ _) (λ hHeld=> ?_);clear hHeld;refine tA 0 (some 35) rfl (Fr.refl _ _) ?_;refine tA 3 (some 38) rfl (Fr.refl _ _) ?_;refine tL 4 (some 39) (v:= .agg #[.slice v.A v.x.ps.length v.c, .int .u64 (v.x.g:Int), .int .i64 v.x.q]) rfl ?yg4 (Fr.refl _ _) ?rg4
    case yg4=>
     intro wq hSw;exact jhh rfl rfl (X6.out.fr ((Fr.of_below (Below.drew (Below.refl _ _))).trans hSw) (λ h=>by have:=block_lt X6.out;have h:w6.heap.size<=_:=h;omega))
    try simp only [Act.put,sA,sB,sC]
    refine rW 1 (some 36) rfl λ K hK=> ?_
    go_simp;rw [show (w6.alloc (.cells #[.int .u8 0] 5)).drew=w6.drew.alloc (.cells #[.int .u8 0] 5) from rfl];have hb7:Below w6.drew.heap.size w6.drew (w6.drew.alloc (.cells #[.int .u8 0] 5)):=(Below.refl _ _).alloc (Nat.le_refl _) _;have hs7:Sl (w6.drew.alloc (.cells #[.int .u8 0] 5)) 1 (some ⟨w6.drew.heap.size,0,none⟩) 1 1 (cells [0]):=Sl.one _ _ _ _ rfl;obtain⟨w7,hw7⟩:∃x,x=w6.drew.alloc (.cells #[.int .u8 0] 5):=⟨_,rfl⟩;rw [<-hw7] at hb7 hs7 ⊢;clear hw7;have hfr:Fr (λ k=>w6.heap.size<=k) w6.drew w7:=Fr.of_below hb7;have B7:=qH (B6.out.trans ((Below.drew (Below.refl _ _)).trans (hb7.mono B6.out.size)));have H7:=qH (show Below w6.heap.size w6 w7 from (Below.drew (Below.refl _ _)).trans hb7);have S7:=qH (S6.out.below ((Below.drew (Below.refl _ _)).trans hb7) (Nat.le_refl _));have U7:=qH hs7;clear hb7 hs7;refine hK.out _ _ hfr (λ hHeld=> ?_);clear hK K hHeld
    try simp only [Act.put,sA,sB,sC]
    refine jac (S':=λ w' =>Fr (λ k=>w6.heap.size<=k) w7 w') (λ w' h=>hfr.trans h) ?_;clear hfr;refine rW 2 (some 37) rfl λ K hK=> ?_
    refine jdz (o:=⟨some 37,_,_,_,_,_⟩) (.tmp 35) (.tmp 36) 105 105 rfl i0 (.int .u8 0) 1 Tryz.underlying105 hi0 hz0 hz1 hz2 rfl (by decide) rfl (Own.full S7.out) (Nat.le_refl _) 1 (cells [0]) _ rfl (U7.out.src Tryz.underlying105 (by decide) (cells_one _)) (by unfold maxLen;omega) (by omega) ?_;intro A8 c8 w8 ho8 hb8;have hfr:Fr (λ k=>w6.heap.size<=k) w7 w8:=Fr.of_below hb8;have B8:=qH (B7.out.trans (hb8.mono B7.out.size));have H8:=qH (H7.out.trans (hb8.mono H7.out.size));have S8:=qH ho8.sl;clear ho8 hb8;refine hK.out _ _ hfr (λ hHeld=> ?_);clear hK K hHeld
    try simp only [Act.put,sA,sB,sC]
    refine jac (S':=λ w' =>Fr (λ k=>w6.heap.size<=k) w8 w') (λ w' h=>hfr.trans h) ?_;clear hfr;refine rW 5 (some 40) rfl λ K hK=> ?_
    go_simp;have hs8:Sl w8 1 A8 (n6+1) c8 (cells (T++venc 9 v.x.key.size++v.x.key.data.toList ++ [0])):=by rw [jai];exact S8.out
    refine(jlP A8 (n6+1) c8 _ v.A v.c v.x.g v.x.q v.x.ps (by omega) (by omega) ⟨hq0,by omega⟩ hgv (λ p hp=>⟨(hpp p hp).1,by have:=(hpp p hp).2;omega⟩) w8 hs8 (V6.out.below H8.out)).mono ?_;rintro e w9 ⟨A9,n9,c9,rfl,hs9,hb9⟩;have hfr:Fr (λ k=>w6.heap.size<=k) w8 w9:=Fr.of_below hb9;have B9:=qH (B8.out.trans (hb9.mono B8.out.size));have S9:=qH hs9;clear hs8 hs9 hb9;go_wp2_with fail;refine hK.out _ _ hfr (λ hHeld=> ?_);clear hK K hHeld
    try simp only [Act.put,sA,sB,sC]
    refine jac (S':=λ w' =>Fr (λ k=>w6.heap.size<=k) w9 w') (λ w' h=>hfr.trans h) ?_;clear hfr;refine tA 6 (some 4) rfl (Fr.refl _ _) ?_;refine tD ?_;go_wp2_with fail;go_roundw
    case rel=>
     have e9:T++venc 9 v.x.key.size++v.x.key.data.toList ++ [0] ++ jbU v.x.q v.x.g v.x.ps=venc 9 st++venc 9 n ++((l.take (i+1)).map CvF.x).flatMap chB:=by
      rw [TK.out,HT.out,chB,HD.out,if_neg (by decide)];simp only [List.append_assoc,List.singleton_append]
     have h7:=S9.out;rw [e9] at h7;refine⟨i+1,A9,n9,c9,rfl,by go_num,by omega,h7,B9.out, ?_⟩;have h8:=LN.out;have h9:=CL.out;rw [TK.out,<-List.append_assoc,<-HT.out,List.length_append];omega
    case measure=>simp [intOf];omega
   ·rw [hd] at k1
    have HD:=qH hd;clear hd;go_wp2_with (at_builtin;refine jbg (B:=w6.heap.size) rfl (.tmp 32) (.tmp 33) rfl rfl (Own.full (S6.out.alloc _)) (by simp) (some ⟨w6.heap.size,0,none⟩) 1 1 [1] rfl (Sl.one _ _ _ _ rfl) (by omega) ?_);intro A7 c7 w7 ho7 hb7;have S7:=qH ho7.sl;have B7:=qH (B6.out.trans (((Below.refl w6.heap.size w6).alloc (Nat.le_refl _) _ |>.trans hb7).mono B6.out.size));clear ho7 hb7;go_wp2_with fail;go_roundw
    case rel=>
     have e9:T++venc 9 v.x.key.size++v.x.key.data.toList ++ [1]=venc 9 st++venc 9 n ++((l.take (i+1)).map CvF.x).flatMap chB:=by
      rw [TK.out,HT.out,chB,HD.out,if_pos rfl];simp only [List.append_assoc]
     have h7:Sl w7 1 A7 (n6+1) c7 (cells (T++venc 9 v.x.key.size++v.x.key.data.toList ++ [1])):=by have h7:=S7.out;simp only [jai,List.append_assoc] at h7 ⊢;exact h7
     rw [e9] at h7;refine⟨i+1,A7,n6+1,c7,rfl,by go_num,by omega,h7,B7.out, ?_⟩;have h8:=LN.out;have h9:=CL.out;rw [TK.out,<-List.append_assoc,<-HT.out,List.length_append];omega
    case measure=>simp [intOf];omega
  ·obtain rfl:n=i:=by omega
   go_wp2_with fail;go_ret2;have h5:=S5.out;rw [List.take_of_length_le (by rw [HC.out.len];exact Nat.le_refl _)] at h5;refine⟨A5,n5,c5,rfl, ?_,BE.out⟩;unfold putR;rw [List.length_map,HC.out.len];exact h5
end
end Go.Proofs.YtmhejbihdghhaaaGreatDoor

/-
  Contracts of package code's Encode
-/
import Derived.Test.YtmhejbihdghhaaaGreatDoorHa
import Derived.BigQuiet
import Derived.Deep.RegionWith
namespace Go.Proofs.YtmhejbihdghhaaaGreatDoor
set_option linter.unusedVariables false
open Go.RowKit Go.Proofs
open Go.RowKit Go.Proofs
open Go.RowKit Go.Proofs
open Go.RowKit Go.Proofs
set_option maxRecDepth 100000
set_option maxHeartbeats 3200000
section
def shard (k:Nat)(rs:List (List UInt8))(i:Nat):List UInt8:=sumR (rs.getD 0 []).length (rowC k i) rs k
def parL (k:Nat)(rs:List (List UInt8))(j:Nat):List (List UInt8):=(List.range j).map λ i=>shard k rs (k+i)
theorem jfr (k:Nat)(rs:List (List UInt8))(j:Nat):(parL k rs j).length=j:=by simp [parL]
theorem jmL (k:Nat)(rs:List (List UInt8))(j:Nat):parL k rs j ++ [shard k rs (k+j)]=parL k rs (j+1):=by simp [parL,List.range_succ]
theorem jmM (C k m F T:Nat)(i:Int)(I:Nat)(hz:i=(I:Int))(hI:I<k+m)(w:World)(h:Cod w C k m F T):
  Calls Tryz.prog 201 #[.pointer (some ⟨C,0,none⟩), .int .i64 i] w (jdA w.heap.size w (rowC k I)):=by
 subst hz;have h3:=h.n255;have hh:=jo9 C k m F T (I:Int) (by omega) (by omega) w h
 rwa [rowI,if_pos (by omega),Int.toNat_natCast] at hh
theorem jkY (C k m F T:Nat)(A:Option Addr)(n c:Nat)(rs:List (List UInt8))(w:World)(h:Cod w C k m F T)(hg:Gr w A n c rs)(hW:∀r∈rs,r.length<=1048576):
  Calls Tryz.prog 143 #[.pointer (some ⟨C,0,none⟩), .slice A n c] w λ e w' =>Below w.heap.size w w' ∧
   (jca rs (k:Int)=false∧e= .returned (.tuple #[.slice none 0 0, .int .i64 2])∨jca rs (k:Int)=true∧∃g,e= .returned (.tuple #[.slice (some ⟨g,0,none⟩) m m, .int .i64 0])∧w.heap.size<=g∧Gm w' w.heap.size (some ⟨g,0,none⟩) m m (parL k rs m)):=by
 have hm:=jdJ C k m F T w h;have h3:=h.n255;have hk1:=h.k1;have hlim:=hg.lim;unfold maxLen at hlim;have H:=qH h;clear h;have Hg:=qH hg;clear hg;have ht:=λ u hu=>jhC (k:Int) (m:Int) A n c rs u hu
 by_cases hev:jca rs (k:Int)=true
 ·rw [hev] at ht
  have hmk:=jbE (m:Int) m rfl (by omega);have hef:=jfn;have hmf:∀(fn:Fn) (first cap:Array Value) (w:World),(Instr.makeFunc fn first cap).run Tryz.prog w= .ok (.func fn first cap) w:=λ _ _ _ _=>rfl
  have hnk:n=k:=by
   rw [jca,Bool.and_eq_true] at hev;have:=of_decide_eq_true hev.1;have:=Hg.out.len;omega
  subst hnk;have hlv:jbP rs=true:=by
   rw [jca,Bool.and_eq_true] at hev;exact hev.2
  have hW0:(rs.getD 0 []).length<=1048576:=by
   have:=Hg.out.get (i:=0) (by omega);exact hW _ (List.mem_of_getElem? this)
  have Hev:=qH hev;clear hev;go_enter Tryz.func143,Tryz.ntmps143;go_wp2_with fail;refine hm.mono ?_;clear hm;rintro e w1 ⟨rfl,j,hw1⟩;have hb1:Below w.heap.size w w1:=by rw [hw1];exact below_drewN (Below.refl _ _) j
  clear hw1;have H1:=qH (H.out.later hb1);have c0:=H1.out.c0;have c1:=H1.out.c1;go_wp2_with fail;refine(ht _ (Hg.out.later hb1)).mono ?_;clear ht;rintro e w2 ⟨rfl,hb2⟩;have H2:=qH (H1.out.later hb2);have hb:=hb1.trans (hb2.mono hb1.size);have hsz2:=hb.size;have Hb:=qH hb;clear c0 c1 hb1 hb2 hb;have c1:=H2.out.c1;go_wp2_with fail;clear c1;go_loopw [26] (λ i wr=>∃(k:Nat) (cur:Array Value),k<=m∧i= .int .i64 (k:Int)∧EncS w2 w2.heap.size m cur (parL n rs k) wr) (λ i _=>m-(intOf i).toNat)
  case atStart=>exact⟨0,_,by omega,rfl,⟨(Below.refl _ _).alloc (Nat.le_refl _) _,Fil.made w2 m,Nat.le_refl _⟩,Sep.nil _ _ _ _⟩
  case round=>
   obtain⟨i,cur,hi,rfl,hE⟩:=hrel;have E:=qH hE;clear hE
   by_cases hlt:i<m
   ·go_upto_region 9 with (fail)
    have hii:(i:Int)<(m:Int):=by omega
    have st0:=qH (E.out.later (Below.drew (Below.refl _ _)));refine wp_region_held_drew (S:=λ w' =>Fr (λ k=>k=w2.heap.size) wr w') (by kernel_rfl) (Fr.drew (Fr.refl _ _)) (λ hHeld=> ?_);clear hHeld;have hHeld:Fr (λ k=>k=w2.heap.size) wr wr.drew:=Fr.drew (Fr.refl _ _);have hz_0:wr.heap.size<=wr.drew.heap.size:=Nat.le_refl _;obtain⟨v_1,hw⟩:∃v_1,v_1=wr.drew:=⟨_,rfl⟩;rw [<-hw] at hHeld hz_0 st0 ⊢;clear hw;refine tA 0 (some 29) rfl hHeld ?_;refine tA 1 (some 30) rfl hHeld ?_;refine tA 2 (some 31) rfl hHeld ?_;refine tA 3 (some 32) rfl hHeld ?_;refine tA 4 (some 33) rfl hHeld ?_;refine tA 5 (some 34) rfl hHeld ?_;refine tA 6 (some 35) rfl hHeld ?_;refine tL 7 (some 36) (v:= ?vg7_9) rfl ?yg7_9 hHeld ?rg7_9
    case yg7_9=>
     intro wq hSw
     (try dsimp only at hSw)
     have q0:=hSw.cell_some (H2.out.later E.out.bel).c0 (by have:=H2.out.row;have:=block_lt this;show ¬C=_;omega);go_simp<;>with_reducible rfl
    try simp only [Act.put,sA,sB,sC]
    refine tA 8 (some 37) rfl hHeld ?_;refine tA 9 (some 38) rfl hHeld ?_;refine tA 11 (some 40) rfl hHeld ?_;refine tA 12 (some 41) rfl hHeld ?_;refine tA 13 (some 42) rfl hHeld ?_;refine tA 14 (some 43) rfl hHeld ?_;refine tL 15 (some 44) (v:= ?vg15_16) rfl ?yg15_16 hHeld ?rg15_16
    case yg15_16=>
     intro wq hSw
     (try dsimp only at hSw)
     have q0:=hSw.cell_some (H2.out.later E.out.bel).c2 (by have:=H2.out.row;have:=block_lt this;show ¬C=_;omega);go_simp<;>with_reducible rfl
    try simp only [Act.put,sA,sB,sC]
    refine tA 16 (some 45) rfl hHeld ?_;refine rW 10 (some 39) rfl λ K hK=> ?_
    go_simp;refine(jmM C n m F T _ (n+i) ?za (by omega) v_1 (H2.out.later st0.out.bel)).mono ?_
    case za=>first|(rw [IntKind.wrap_i64];omega)|omega|(unfold wrap64;omega)
    rintro e v_18 ⟨Ar,nr,cr,rfl,hsr,hbN⟩;have st_19:=qH (st0.out.later hbN);have hfN:Fr (λ k=>k=w2.heap.size) v_1 v_18:=Fr.of_below hbN;have hnr:nr=n:=by
     have:=hsr.len;rw [jaa,jcB] at this;omega
    subst hnr;have Hsr:=qH hsr;clear hsr hbN;go_wp2_with fail;have hHeld:=hHeld.trans hfN;have hz_20:=hfN.size;refine hK.out _ _ hHeld λ _=> ?_
    clear hK K hfN
    try simp only [Act.put,sA,sB,sC]
    refine rW 17 (some 46) rfl λ K hK=> ?_
    go_simp;have hh:=jkX F T Ar nr cr (rowC nr (nr+i)) A nr c rs v_18 (H2.out.later st_19.out.bel).fld Hsr.out (Hg.out.later (Hb.out.trans (st_19.out.bel.mono hsz2))) (by omega) (by omega) hlv hW0;refine hh.mono ?_;clear hh;rintro e v_21 ⟨Ap,np,cp,rfl,hsp,hbN,hmp⟩;have st_22:=qH (st_19.out.later hbN);have hfN:Fr (λ k=>k=w2.heap.size) v_18 v_21:=Fr.of_below hbN;have hnp:np=(shard nr rs (nr+i)).length:=by
     have:=hsp.len;rw [jaa] at this;have e:(shard nr rs (nr+i)).length=(sumR (rs.getD 0 []).length (rowC nr (nr+i)) rs nr).length:=rfl;omega
    subst hnp;have Hsp:=qH (show Sl v_21 1 Ap (shard nr rs (nr+i)).length cp (cells (shard nr rs (nr+i))) from hsp);have Hap:=qH (λ b o (hn:0<(shard nr rs (nr+i)).length) (e:Ap=some ⟨b,o,none⟩)=>show b≠w2.heap.size from by
     obtain⟨gp,cur',e',hgp,_⟩:=hmp hn;rw [e] at e';injection e' with e';injection e' with e' _
     have:=st_19.out.fil.row;have:=block_lt this;omega)
    have Hmp:=qH (show Mine v_21 v_18.heap.size 5 Ap (shard nr rs (nr+i)).length (cells (shard nr rs (nr+i))) from hmp);have Hqs:=qH (st_19.out.sep.later hbN);have HgH:=qH (show w2.heap.size+1<=v_18.heap.size from block_lt st_19.out.fil.row);have HHw:=qH hbN.size;clear hsp hmp hbN;go_wp2_with fail;have hHeld:=hHeld.trans hfN;have hz_23:=hfN.size;refine hK.out _ _ hHeld λ _=> ?_
    clear hK K hfN
    try simp only [Act.put,sA,sB,sC]
    refine tA 18 (some 47) rfl hHeld ?_;refine rW 19 none rfl λ K hK=> ?_
    obtain⟨v0,hv0⟩:=st_22.out.fil.has hlt;have hz0:=st_22.out.fil.free i;go_simp;have hfN:Fr (λ k=>k=w2.heap.size) v_21 (v_21.setCell ⟨w2.heap.size,i,none⟩ (.slice Ap (shard nr rs (nr+i)).length cp)):=Fr.setCell (S:=λ k=>k=w2.heap.size) (Fr.refl _ _) (.inr rfl) _;have hgN:=heap_setCell_same v_21 w2.heap.size i cur _ (.slice Ap (shard nr rs (nr+i)).length cp) st_22.out.fil.row;obtain⟨v_25,hw⟩:∃v,v=v_21.setCell ⟨w2.heap.size,i,none⟩ (.slice Ap (shard nr rs (nr+i)).length cp):=⟨_,rfl⟩;rw [<-hw] at hfN hgN ⊢;clear hw hv0 hz0;have st_26:=qH (st_22.out.store (jfr _ _ _) hlt hfN hgN Hsp.out Hap.out Hqs.out HgH.out HHw.out Hmp.out);clear hgN;have hHeld:=hHeld.trans hfN;have hz_27:=hfN.size;refine hK.out _ _ hHeld λ _=> ?_
    clear hK K hfN
    try simp only [Act.put,sA,sB,sC]
    refine tD ?_;have hfin:=st_26.out;rw [jmL] at hfin;have Hfin:=qH hfin;clear hfin;go_wp2_with fail;go_roundw
    case rel=>exact⟨i+1,_,by omega,by go_num,Hfin.out⟩
    case measure=>simp [intOf];omega
   ·obtain rfl:i=m:=by omega
    go_wp2_with fail;go_ret2;refine⟨Hb.out.trans (E.out.bel.mono hsz2), .inr ⟨Hev.out,w2.heap.size,rfl,hsz2,(E.out.gm (jfr _ _ _) (by unfold maxLen;omega)).lower hsz2⟩⟩
 ·have hev':jca rs (k:Int)=false:=by simpa using hev
  rw [hev'] at ht;have Hev:=qH hev';clear hev hev';go_enter Tryz.func143,Tryz.ntmps143;go_wp2_with fail;refine hm.mono ?_;clear hm;rintro e w1 ⟨rfl,j,hw1⟩;have hb1:Below w.heap.size w w1:=by rw [hw1];exact below_drewN (Below.refl _ _) j
  clear hw1;have H1:=qH (H.out.later hb1);have c0:=H1.out.c0;have c1:=H1.out.c1;go_wp2_with fail;refine(ht _ (Hg.out.later hb1)).mono ?_;clear ht;rintro e w2 ⟨rfl,hb2⟩;have hb:=hb1.trans (hb2.mono hb1.size);clear c0 c1 hb1 hb2;go_wp2_with fail;go_ret2;exact⟨hb, .inl ⟨Hev.out,rfl⟩⟩
end
section
theorem Sl.ofNone {w:World}{n c:Nat}{l:List UInt8}(h:Sl w 1 none n c (cells l)):n=0∧l= []:=by
 have hl:l= []:=by
  rcases l with _|⟨u,r⟩
  ·rfl
  ·obtain⟨_,_,e,_⟩:=h.cell 0 (bv u) rfl
   cases e
 subst hl;have:=h.len;simp [cells] at this;exact⟨by omega,rfl⟩
theorem jhE (A:Option Addr)(n c:Nat)(l:List UInt8)(w:World)(h:Sl w 1 A n c (cells l))(hn:n<=1048576):
  Calls Tryz.prog 144 #[.slice A n c] w (jcw w.heap.size w l):=by
 rcases A with _|ad
 ·obtain⟨rfl,rfl⟩:=h.ofNone
  clear h;have hq:(binOp .eql 105 (.slice none 0 c) (.slice none 0 0)).run Tryz.prog w= .ok (.bool true) w:=Lib.run_eql_slice_nil w _ _ none 0 c 0 0 Tryz.underlying105;go_enter Tryz.func144,Tryz.ntmps144;go_wp2_with fail;go_ret;exact⟨none,0,0,rfl,Sl.nil _ 1 0 (by decide),Below.refl _ _,λ h=>absurd h (by omega)⟩
 ·have hl:=h.len
  rw [jaa,Nat.mul_one] at hl;have H:=qH h;clear h;have Hl:=qH hl;clear hl;have hq:(binOp .eql 105 (.slice (some ad) n c) (.slice none 0 0)).run Tryz.prog w= .ok (.bool false) w:=Lib.run_eql_slice_nil w _ _ (some ad) n c 0 0 Tryz.underlying105;go_enter Tryz.func144,Tryz.ntmps144;go_wp2_with (at_builtin;refine jaG (B:=w.heap.size) rfl (.tmp 5) (.tmp 6) rfl rfl (Own.full (Sl.empty _ 1 _ 0 (by decide))) ?pa (some ad) n c l rfl (H.out.alloc _) ?pb ?pc)
  case pa=>simp
  case pb=>omega
  intro A2 c2 w2 ho2 hb2 hr2;have hb:Below w.heap.size w w2:=((Below.refl _ _).alloc (Nat.le_refl _) _).trans hb2;have Ho2:=qH ho2;clear ho2;have Hr2:=qH hr2;clear hr2 hb2;go_wp2_with fail;go_ret;exact⟨A2,n,c2,rfl,Ho2.out.sl,hb,λ hn' =>Mine.of_own (Hr2.out hn') hn'⟩
theorem GrV.one {w:World}{g:Nat}{r:List UInt8}{A':Option Addr}{c':Nat}(hg:w.heap[g]? =some (.cells #[.slice A' r.length c'] 105 (0,0)))(hs:Sl w 1 A' r.length c' (cells r)):GrV w (some ⟨g,0,none⟩) 1 1 [r] [.slice A' r.length c']:=by
 refine⟨⟨rfl,Nat.le_refl _,by decide,λ j u hu=>⟨g,0,rfl, ?_⟩⟩,λ i x hx=> ?_,rfl⟩
 ·rw [cell_of_row _ _ _ _ _ _ hg,Nat.zero_add]
  simpa using hu
 ·rcases i with _|i
  ·simp at hx
   subst hx;exact⟨A',c',rfl,hs⟩
  ·simp at hx
theorem jef {w:World}{B n c:Nat}{A:Option Addr}{rs:List (List UInt8)}{vs:List Value}{ops:Array Oper}{rest:List Oper}{o:Oper}{a:Act}{Q:Exit->Act->World->Prop}(hgd:o.guard=none)(s x:Operand)
  (ho:o.op= .call {callee:= .builtin .append,args:= #[s,x],argTypes:= #[101,101]})
  (hv:a.eval s= .slice A n c)(h:GgV w B A n c rs vs)(hB:B<=w.heap.size)(A1:Option Addr)(n1 c1:Nat)(r:List UInt8)(hn1:n1=r.length)(hr:Sl w 1 A1 n1 c1 (cells r))(hoth:Oth A A1 n1)
  (hx:a.eval x= .slice (some ⟨w.heap.size,0,none⟩) 1 1)(h40:n+1<=1048576)
  (hk:∀A' c' w',GgV w' B A' (n+1) c' (rs ++ [r]) (vs ++ [.slice A1 n1 c1])->Below B w w' ->w.heap.size<=w'.heap.size->Fr (Blk A) w w' ->wpList Tryz.prog ops Q rest (a.put o.dst (.slice A' (n+1) c')) w'):
  wpList Tryz.prog ops Q (o::rest) a (w.alloc (.cells #[.slice A1 n1 c1] 105)):=by
 subst hn1;have hb0:Below w.heap.size w (w.alloc (.cells #[.slice A1 r.length c1] 105)):=(Below.refl _ _).alloc (Nat.le_refl _) _;have hg:=heap_alloc_new w (.cells #[.slice A1 r.length c1] 105);refine jcN (B:=B) hgd s x ho hv (h.later hb0) (Nat.le_trans hB hb0.size) (some ⟨w.heap.size,0,none⟩) 1 1 [r] _ hx (GrV.one hg (hr.below hb0 (Nat.le_refl _))) h40 ?_ ?_
 ·intro i r' A' c' hi hc
  rcases i with _|i
  ·simp at hi
   subst hi;simp at hc;obtain⟨rfl,_⟩:=hc;exact hoth
  ·simp at hi
 ·intro A' c' w' hg' hb' hs' hf'
  exact hk A' c' w' hg' ((hb0.mono hB).trans hb') (Nat.le_trans hb0.size hs') ((Fr.of_below hb0).trans hf')
structure GgS (w:World)(B:Nat)(A:Option Addr)(n c:Nat)(rs:List (List UInt8)):Prop where
 ex:∃vs:List Value,GgV w B A n c rs vs∧Sep w B w.heap.size (λ i=>vs[i]?) rs
section
variable {w w':World}{B n c:Nat}{A:Option Addr}{rs:List (List UInt8)}
theorem GgS.gg (h:GgS w B A n c rs):Gg w B A n c rs:=by
 obtain⟨vs,h1,_⟩:=h.ex;exact h1.gg
theorem GgS.made0 (w:World)(k:Nat)(hk:k<=maxLen):GgS (w.alloc (.cells (madeCells #[.slice none 0 0] k) 105)) w.heap.size (some ⟨w.heap.size,0,none⟩) 0 k []:=⟨⟨[],GgV.made0 w k hk,Sep.nil _ _ _ _⟩⟩
theorem GgS.next {v vs:List Value}{A1 A':Option Addr}{c1 c':Nat}{r:List UInt8}{w0 w1 w2:World}(h1:GgV w0 B A n c rs vs)(h2:Sep w0 B w0.heap.size (λ i=>vs[i]?) rs)(hb:Below w0.heap.size w0 w1)(hm:Mine w1 w0.heap.size 5 A1 r.length (cells r))
  (hoth:Oth A A1 r.length)(hB:B<=w0.heap.size)(hf:Fr (Blk A) w1 w2)(h3:GgV w2 B A' (n+1) c' (rs ++ [r]) (vs ++ [.slice A1 r.length c1])):GgS w2 B A' (n+1) c' (rs ++ [r]):=by
 have hvl:=h1.own.sl.len;rw [Nat.mul_one] at hvl;have hrl:=h1.len;have s1:Sep w1 B w1.heap.size (λ i=>(vs ++ [Value.slice A1 r.length c1])[i]?) (rs ++ [r]):=by
  refine(h2.later hb).app (Sep.one (c:=c1) hm) (.inl (Nat.le_refl _)) (Nat.le_refl _) hB hb.size (Nat.le_refl _) (λ i hi=> ?_) λ i hi=> ?_
  ·show (vs ++ [Value.slice A1 r.length c1])[i]? =vs[i]?
   rw [List.getElem?_append_left (by omega)]
  ·have hi:i<1:=hi
   obtain rfl:i=0:=by omega
   show (vs ++ [Value.slice A1 r.length c1])[rs.length+0]? =_
   rw [List.getElem?_append_right (by omega),show rs.length+0-vs.length=0 from by omega]
   rfl
 refine⟨⟨_,h3,(s1.frS hf λ i x g n' c'' hi hx e hk=> ?_).up hf.size⟩⟩;obtain⟨o,hk⟩:=hk
 rcases Nat.lt_or_ge i rs.length with hl|hl
 ·rw [List.getElem?_append_left hl] at hi
  obtain⟨A2,c2,e1,_,e3⟩:=h1.rows i x hi;have e:(vs ++ [Value.slice A1 r.length c1])[i]? =_:=e;rw [List.getElem?_append_left (by omega),e1] at e;injection e with e
  injection e with e
  exact e3 g 0 o hx e hk
 ·rw [List.getElem?_append_right hl] at hi
  have hi0:i-rs.length=0:=by
   rcases Nat.lt_or_ge (i-rs.length) 1 with h' |h'
   ·omega
   ·rw [List.getElem?_eq_none (by simpa using h')] at hi
    cases hi
  rw [hi0] at hi;simp at hi;subst hi;have e:(vs ++ [Value.slice A1 r.length c1])[i]? =_:=e;rw [List.getElem?_append_right (by omega),show i-vs.length=0 from by omega] at e;injection e with e
  injection e with e
  exact hoth g 0 o hx e hk
end
theorem jqW (C k m F T:Nat)(A:Option Addr)(n c:Nat)(rs:List (List UInt8))(w:World)(h:Cod w C k m F T)(hg:Gr w A n c rs)(hW:∀r∈rs,r.length<=1048576):
  Calls Tryz.prog 93 #[.pointer (some ⟨C,0,none⟩), .slice A n c] w λ e w' =>Below w.heap.size w w' ∧
   (jca rs (k:Int)=false∧e= .returned (.tuple #[.slice none 0 0, .int .i64 2])∨jca rs (k:Int)=true∧∃A c,e= .returned (.tuple #[.slice A (k+m) c, .int .i64 0])∧Gm w' w.heap.size A (k+m) c (rs++parL k rs m)):=by
 have he:=jkY C k m F T A n c rs w h hg hW;have h3:=h.n255;have hlim:=hg.lim;unfold maxLen at hlim;have H:=qH h;clear h;have Hg:=qH hg;clear hg;have HW:=qH hW;clear hW;go_enter Tryz.func93,Tryz.ntmps93;go_wp2_with fail;refine he.mono ?_;clear he;rintro e w1 ⟨hb1,h1⟩
 rcases h1 with ⟨hev,rfl⟩|⟨hev,g,rfl,_,hpar⟩
 ·have Hev:=qH hev;clear hev
  go_wp2_with fail;go_ret2;exact⟨hb1, .inl ⟨Hev.out,rfl⟩⟩
 ·have hnk:n=k:=by
   rw [jca,Bool.and_eq_true] at hev;have:=of_decide_eq_true hev.1;have:=Hg.out.len;omega
  subst hnk;have H1:=qH (H.out.later hb1);have Hev:=qH hev;clear hev;have Hpar:=qH hpar;clear hpar;have Hb1:=qH hb1;have hsz1:=hb1.size;have c0:=H1.out.c0;have c1:=H1.out.c1;clear hb1;go_wp2_with fail;refine(jkb n m h3 _).mono ?_;rintro e w2 ⟨rfl,hb2⟩;have hmk:=jnU ((n:Int) +(m:Int)) (n+m) (by simp) (by omega);have hb12:=Hb1.out.trans (hb2.mono hsz1);have Hb12:=qH hb12;have hsz2:=hb12.size;have Hpar2:=qH (Hpar.out.later hb2);clear c0 c1 hb2 hb12 Hpar;go_wp2_with fail;go_loopw [8,28] (λ v i wr=>∃(j:Nat) (A':Option Addr) (c':Nat),j<=n∧i= .int .i64 (j:Int)∧v= .slice A' j c' ∧GgS wr w2.heap.size A' j c' (rs.take j)∧Below w2.heap.size w2 wr) (λ _ i _=>n-(intOf i).toNat)
  case atStart=>exact⟨0,_,_,by omega,rfl,rfl,by simpa using GgS.made0 w2 (n+m) (by unfold maxLen;omega),(Below.refl _ _).alloc (Nat.le_refl _) _⟩
  case round=>
   obtain⟨j,A',c',hj,rfl,rfl,hG,hb⟩:=hrel;have HG:=qH hG;clear hG;have Hb:=qH hb;have hszr:=hb.size;clear hb
   by_cases hlt:j<n
   ·obtain⟨b,o,rfl,hc⟩:=(Hg.out.later (Hb12.out.trans (Hb.out.mono hsz2))).at_ (by omega)
    obtain⟨Ar,cr,hcr,hsr⟩:=hc j _ (Hg.out.get hlt);have hWj:(rs.getD j []).length<=1048576:=HW.out _ (List.mem_of_getElem? (Hg.out.get hlt));obtain⟨r,hr⟩:∃r,r=rs.getD j []:=⟨_,rfl⟩;rw [<-hr] at hcr hsr hWj;have Hr:=qH hr;clear hr hc;have hcl:=jhE Ar r.length cr r wr hsr hWj;clear hsr;go_wp2_with fail;refine hcl.mono ?_;clear hcl;rintro e w3 ⟨Ac,nc,cc,rfl,hsc,hb3,hmc⟩;have hnc:nc=r.length:=by
     have:=hsc.len;rw [jaa] at this;omega
    have hoth:Oth A' Ac nc:=λ b1 o1 o2 hn e1 e2=>by
     obtain⟨g',cur,e',hg',_⟩:=hmc hn;rw [e1] at e';injection e' with e';injection e' with e' _
     have:=(HG.out.gg.own _ _ e2).2;omega
    have Hsc:=qH hsc;have Hoth:=qH hoth;have hsz3:=hb3.size;obtain⟨vs,hV,hS⟩:=HG.out.ex;have HV:=qH hV;have HS:=qH hS;have HV3:=qH (hV.later hb3);have Hbq:=qH hb3;subst hnc;have Hmc:=qH hmc;clear hV hS;have Hb3:=qH (Hb.out.trans (hb3.mono hszr));clear hsc hmc hoth hb3 hcr;go_wp2_with (at_builtin;refine jef (B:=w2.heap.size) rfl (.tmp 32) (.tmp 35) rfl rfl HV3.out ?pa Ac r.length cc r rfl Hsc.out Hoth.out rfl ?pb ?pc)
    case pa=>omega
    case pb=>omega
    intro A4 c4 w4 hG4 hb4 _ hf4
    replace hG4:=GgS.next (v:= []) HV.out HS.out Hbq.out Hmc.out Hoth.out (by omega) hf4 hG4
    have hnext:rs.take j ++ [r]=rs.take (j+1):=by
     have hjl:j<rs.length:=by rw [Hg.out.len];exact hlt
     rw [<-List.take_append_getElem hjl,Hr.out];simp [hjl]
    rw [hnext] at hG4;have HG4:=qH hG4;clear hG4 hnext;have Hb4:=qH (Hb3.out.trans hb4);clear hb4 hf4;go_wp2_with fail;go_roundw
    case rel=>exact⟨j+1,A4,c4,by omega,by go_num,rfl,HG4.out,Hb4.out⟩
    case measure=>simp [intOf];omega
   ·obtain rfl:j=n:=by omega
    obtain⟨vs,hV,hS⟩:=HG.out.ex;have HV:=qH hV;have HS:=qH hS;obtain⟨ps,hP,hQ,_⟩:=Hpar2.out.ex;have hP3:=hP.later Hb.out;have hQ3:=hQ.later Hb.out;have hfar:∀(i:Nat) (r:List UInt8) (A2:Option Addr) (c2:Nat),(parL j rs m)[i]? =some r->ps[i]? =some (Value.slice A2 r.length c2)->Oth A' A2 r.length:=λ i r A2 c2 hi hv b1 o1 o2 hn e1 e2=>by
     rw [e1] at hv;obtain⟨g1,c1,q1,q2,q3⟩:=hQ.row i r hi hn;have q1:ps[i]? =_:=q1;rw [hv] at q1;injection q1 with q1;injection q1 with q1;injection q1 with q1;injection q1 with q1
     have:=(hV.blk _ _ e2).1;omega
    have HP3:=qH hP3;have HQ3:=qH hQ3;have Hfar:=qH hfar;clear hP hQ hP3 hQ3 hfar hV hS;go_wp2_with (at_builtin;refine jcN (B:=w2.heap.size) rfl (.tmp 38) (.tmp 39) rfl rfl HV.out ?qa (some ⟨g,0,none⟩) m m (parL j rs m) ps rfl HP3.out ?qb Hfar.out ?qc)
    case qa=>omega
    case qb=>omega
    intro A4 c4 w4 hV4 hb4 hsz4 hf4;have hG4:Gm w4 w.heap.size A4 (j+m) c4 (rs.take j++parL j rs m):=by
     have hvl:=HV.out.own.sl.len;rw [Nat.mul_one] at hvl;have hrl:=HV.out.len;have s1:Sep wr w.heap.size wr.heap.size (λ i=>(vs++ps)[i]?) (rs.take j++parL j rs m):=by
      refine HS.out.app HQ3.out (.inr (Nat.le_refl _)) (by omega) (Nat.le_refl _) (Nat.le_refl _) hszr (λ i hi=> ?_) λ i hi=> ?_
      ·show (vs++ps)[i]? =vs[i]?
       rw [List.getElem?_append_left (by omega)]
      ·show (vs++ps)[(rs.take j).length+i]? =ps[i]?
       rw [List.getElem?_append_right (by omega),show (rs.take j).length+i-vs.length=i from by omega]
     have hot:∀(i:Nat) (r:List UInt8) (A2:Option Addr) (c2:Nat),(rs.take j++parL j rs m)[i]? =some r->(vs++ps)[i]? =some (Value.slice A2 r.length c2)->Oth A' A2 r.length:=λ i r A2 c2 hi hv=>by
      rcases Nat.lt_or_ge i (rs.take j).length with hl|hl
      ·rw [List.getElem?_append_left hl] at hi
       rw [List.getElem?_append_left (by omega)] at hv;obtain⟨A3,c3,e1,_,e3⟩:=HV.out.rows i r hi;rw [hv] at e1;injection e1 with e1
       injection e1 with e1
       subst e1;exact e3
      ·rw [List.getElem?_append_right hl] at hi
       rw [List.getElem?_append_right (by omega)] at hv;exact Hfar.out _ r A2 c2 hi (by rw [<-hv];congr 1;omega)
     refine⟨⟨_,hV4.grV,(s1.frS hf4 λ i x gx n' c'' hi hx e hk=> ?_).up hf4.size,λ i r A2 c2 hi hv=> ?_⟩⟩
     ·obtain⟨o,hk⟩:=hk
      obtain⟨g1,c1,q1,_,_⟩:=s1.row i x hi hx;have q1:(vs++ps)[i]? =_:=q1;have e:(vs++ps)[i]? =_:=e;rw [q1] at e;injection e with e;injection e with e;injection e with e;injection e with e
      subst e;exact hot i x _ _ hi q1 g1 0 o hx rfl hk
     ·obtain⟨A3,c3,e1,_,e3⟩:=hV4.rows i r hi
      rw [hv] at e1;injection e1 with e1
      injection e1 with e1
      subst e1;exact e3
    clear hV4;rw [List.take_of_length_le (by rw [Hg.out.len];exact Nat.le_refl _)] at hG4;have HG4:=qH hG4;clear hG4;have Hb4:=qH (Hb12.out.trans ((Hb.out.trans hb4).mono hsz2));clear hb4;go_wp2_with fail;go_ret2;exact⟨Hb4.out, .inr ⟨Hev.out,A4,c4,rfl,HG4.out⟩⟩
end
section
def cutR (l:List UInt8)(W i:Nat):List UInt8:=rowL W λ p=>l.getD (i*W+p) 0
theorem jaI (l:List UInt8)(W i:Nat):(cutR l W i).length=W:=jag _ _
def cutL (l:List UInt8)(W j:Nat):List (List UInt8):=(List.range j).map (cutR l W)
theorem jaU (l:List UInt8)(W j:Nat):(cutL l W j).length=j:=by simp [cutL]
theorem jhF (l:List UInt8)(W j:Nat):cutL l W j ++ [cutR l W j]=cutL l W (j+1):=by simp [cutL,List.range_succ]
theorem jqX (l:List UInt8)(W i:Nat):(l.drop (i*W)).take W++List.replicate (W-((l.drop (i*W)).take W).length) 0=cutR l W i:=by
 apply List.ext_getElem?
 intro p
 rcases Nat.lt_or_ge p W with hp|hp
 ·rw [cutR,jbZ _ _ _ hp]
  rcases Nat.lt_or_ge p ((l.drop (i*W)).take W).length with h|h
  ·rw [List.getElem?_append_left h,List.getElem?_take_of_lt hp,List.getElem?_drop]
   have:i*W+p<l.length:=by rw [List.length_take,List.length_drop] at h;omega
   simp [this]
  ·rw [List.getElem?_append_right h,List.getElem?_replicate,if_pos (by omega)]
   have:l.length<=i*W+p:=by rw [List.length_take,List.length_drop] at h;omega
   simp [this]
 ·rw [List.getElem?_eq_none (by rw [List.length_append,List.length_replicate];rw [List.length_take];omega),List.getElem?_eq_none (by rw [jaI];exact hp)]
theorem jhG {w:World}{B n c cd m:Nat}{g:Nat}{A:Option Addr}{l d:List UInt8}(h:Mine w B 5 (some ⟨g,0,none⟩) n (cells d))(hd:d.length=n)(hs:Sl w 1 A m c (cells l))(ty:TypeId):
  ∃w',(Builtin.copy_ #[105,105] ty #[.slice (some ⟨g,0,none⟩) n cd, .slice A m c]).run Tryz.prog w= .ok (.int .i64 ((min m n:Nat):Int)) w' ∧Mine w' B 5 (some ⟨g,0,none⟩) n (cells (l.take n++d.drop (l.take n).length))∧Fr (λ k=>k=g) w w':=by
 have hl:=hs.len;rw [jaa,Nat.mul_one] at hl
 by_cases hz:min m n=0
 ·have hlt:l.take n= []:=by
   apply List.eq_nil_of_length_eq_zero
   rw [List.length_take,hl,Nat.min_comm];exact hz
  refine⟨w, ?_,by rw [hlt];simpa using h,Fr.refl _ _⟩;have:=run_copy_none (P:=Tryz.prog) w 105 105 ty _ (some ⟨g,0,none⟩) A n cd m c Tryz.underlying105 jgL hz;rw [hz];exact this
 ·obtain⟨g',cur,hg',hB,hrow,hcur,ht⟩:=h (by omega)
  injection hg' with hg'
  injection hg' with hg' _
  subst hg';obtain⟨b,o,rfl,hc⟩:=hs.at_ (k:=0) (by omega);have hlen:((cells l).take n).length=min m n:=by rw [List.length_take,jaa,hl,Nat.min_comm]
  have hr:=run_copy_row (P:=Tryz.prog) w 105 105 ty 5 g 0 n cd ⟨b,o,none⟩ m c cur 5 ((cells l).take n) Tryz.underlying105 jgL hrow (by rw [hlen]) (λ j v hv=>by
   rw [show (⟨b,o,none⟩:Addr).add j=⟨b,o+j,none⟩ from by unfold Addr.add;split<;>simp_all];rw [List.getElem?_take] at hv
   split at hv
   ·exact hc j v hv
   ·cases hv) (by rw [hlen];omega) (λ u hu=>cells_one l u (List.mem_of_mem_take hu))
  rw [hlen] at hr;refine⟨_,hr,λ _=>⟨g,_,rfl,hB,setRow_heap _ _ _ _ _ _ hrow, ?_, ?_⟩,⟨rfl,rfl,rfl,by simp,λ k hk hne=>setRow_other _ _ k _ hne⟩⟩
  ·simp only [List.size_toArray,List.length_append,List.length_take,List.length_drop,Array.length_toList,jaa,hl]
   omega
  ·simp only [List.take_zero,List.nil_append]
   have hlt:(l.take n).length=min m n:=by rw [List.length_take,hl,Nat.min_comm]
   rw [jai,jc7,hlt,jc8,<-ht];rw [List.take_append,hlen,List.take_of_length_le (l:=(cells l).take n) (by rw [hlen];omega),List.drop_take,Nat.zero_add]
theorem jmN (C k m F T:Nat)(A:Option Addr)(n c:Nat)(l:List UInt8)(W:Int)(hW1: -9223372036854775808<=W)(hW2:W<9223372036854775808)(w:World)(h:Cod w C k m F T)(hs:Sl w 1 A n c (cells l)):
  Calls Tryz.prog 92 #[.pointer (some ⟨C,0,none⟩), .slice A n c, .int .i64 W] w λ e w' =>Below w.heap.size w w' ∧
   (¬(1<=W∧W<=65536)∧e= .returned (.tuple #[.slice none 0 0, .int .i64 2])∨(1<=W∧W<=65536)∧(k:Int)*W<(n:Int)∧e= .returned (.tuple #[.slice none 0 0, .int .i64 260])∨
    (1<=W∧W<=65536)∧(n:Int)<=(k:Int)*W∧∃g,e= .returned (.tuple #[.slice (some ⟨g,0,none⟩) k k, .int .i64 0])∧Gr w' (some ⟨g,0,none⟩) k k (cutL l W.toNat k)):=by
 have hm:=jdJ C k m F T w h;have h3:=h.n255;have hk1:=h.k1;have hlim:=hs.lim;have hl:=hs.len;rw [jaa,Nat.mul_one] at hl;unfold maxLen at hlim;have H:=qH h;clear h;have Hs:=qH hs;clear hs
 by_cases hin:1<=W∧W<=65536
 ·obtain⟨V,hWV⟩:∃V:Nat,W=(V:Int):=⟨W.toNat,by omega⟩
  obtain⟨hV1,hV2⟩:=hin;have hVn:V<=65536:=by omega
  have hkV:k*V<=255*65536:=Nat.mul_le_mul (by omega) hVn;obtain⟨KV,hKV⟩:∃KV,KV=k*V:=⟨_,rfl⟩;have hKVi:(k:Int)*W=(KV:Int):=by rw [hKV,hWV];simp
  rw [<-hKV] at hkV
  replace hkV:KV<=16711680:=by omega
  have HKV:=qH hKV;clear hKV;have HWV:=qH hWV;clear hWV
  by_cases hbig:KV<n
  ·go_enter Tryz.func92,Tryz.ntmps92
   go_wp2_with fail;refine hm.mono ?_;clear hm;rintro e w1 ⟨rfl,j,hw1⟩;have hb1:Below w.heap.size w w1:=by rw [hw1];exact below_drewN (Below.refl _ _) j
   clear hw1;have c0:=(H.out.later hb1).c0;go_wp2_with fail;go_ret2;exact⟨hb1, .inr (.inl ⟨⟨hV1,hV2⟩,by rw [hKVi];omega,rfl⟩)⟩
  ·have hmk:=jbE (k:Int) k rfl (by omega)
   have hmk2:=jb9 W V HWV.out (by omega);have hbig':¬((n:Int)>(KV:Int)):=by omega
   go_enter Tryz.func92,Tryz.ntmps92;go_wp2_with fail;refine hm.mono ?_;clear hm;rintro e w1 ⟨rfl,j,hw1⟩;have hb1:Below w.heap.size w w1:=by rw [hw1];exact below_drewN (Below.refl _ _) j
   clear hw1;have c0:=(H.out.later hb1).c0;have hsz1:=hb1.size;have Hb1:=qH hb1;clear hb1;go_wp2_with fail;clear c0;go_loopw [1,37] (λ v i wr=>∃(j:Nat) (cur:Array Value) (A':Option Addr) (n' c':Nat),j<=k∧i= .int .i64 (j:Int)∧v= .slice A' n' c' ∧Sl w 1 A' n' c' (cells (l.drop (j*V)))∧Enc w1 w1.heap.size k cur (cutL l V j) wr) (λ _ i _=>k-(intOf i).toNat)
   case atStart=>exact⟨0,_,A,n,c,by omega,rfl,rfl,by simpa using Hs.out,(Below.refl _ _).alloc (Nat.le_refl _) _,Fil.made w1 k,Nat.le_refl _⟩
   case round=>
    obtain⟨j,cur,A',n',c',hj,rfl,rfl,hsl,hE⟩:=hrel;have E:=qH hE;clear hE;have hsl':=hsl.below (Hb1.out.trans (E.out.bel.mono hsz1)) (Nat.le_refl _);have hlim':=hsl.lim;have hcap':=hsl.cap;have htop':=hsl.top;unfold maxLen at hlim' htop';have hn':=hsl.len;rw [jaa,Nat.mul_one] at hn';have Hsl0:=qH hsl;clear hsl;have Hsl:=qH hsl';clear hsl';have Hn':=qH hn';clear hn'
    by_cases hlt:j<k
    ·obtain⟨v0,hv0⟩:=E.out.fil.has hlt
     have hz0:=E.out.fil.free j;have hgs:=block_lt E.out.fil.row;have hrw:=E.out.fil.row;have hb2:Below wr.heap.size wr (wr.alloc (.cells (madeCells #[.int .u8 0] V) 5)):=(Below.refl _ _).alloc (Nat.le_refl _) _;have hv0':(wr.alloc (.cells (madeCells #[.int .u8 0] V) 5)).cell? ⟨w1.heap.size,j,none⟩=some v0:=(hb2.cell (p:=⟨w1.heap.size,j,none⟩) hgs).trans hv0;have hz0':(wr.alloc (.cells (madeCells #[.int .u8 0] V) 5)).frozen? ⟨w1.heap.size,j,none⟩=false:=(hb2.frozen (p:=⟨w1.heap.size,j,none⟩) hgs).trans hz0;obtain⟨u,hu⟩:∃u,u=(wr.setCell ⟨w1.heap.size,j,none⟩ (.slice (some ⟨wr.heap.size,0,none⟩) V V)).alloc (.cells (madeCells #[.int .u8 0] V) 5):=⟨_,rfl⟩;have hszs:(wr.setCell ⟨w1.heap.size,j,none⟩ (.slice (some ⟨wr.heap.size,0,none⟩) V V)).heap.size=wr.heap.size:=by simp
     have hfu:Fr (λ k=>k=w1.heap.size) wr u:=by rw [hu];exact(Fr.setCell (S:=λ k=>k=w1.heap.size) (Fr.refl _ _) (.inr rfl) _).alloc _
     have hgu:u.heap[w1.heap.size]? =some (.cells (cur.setIfInBounds j (.slice (some ⟨wr.heap.size,0,none⟩) V V)) 105 (0,0)):=by
      rw [hu];exact(Below.heap_alloc _ _ _ (by rw [hszs];exact hgs)).trans (heap_setCell_same _ w1.heap.size j cur _ _ hrw)
     have hmu:Mine u w1.heap.size 5 (some ⟨wr.heap.size,0,none⟩) V (cells (List.replicate V 0)):=by
      have:=Mine.noughts (wr.setCell ⟨w1.heap.size,j,none⟩ (.slice (some ⟨wr.heap.size,0,none⟩) V V)) V;rw [hszs] at this;rw [hu];exact this.lower (by omega)
     have hsu:Sl u 1 A' n' c' (cells (l.drop (j*V))):=Hsl0.out.below ((Hb1.out.trans (E.out.bel.mono hsz1)).trans (hfu.below (by have:=E.out.bel.size;omega) (λ k hk=>by have hk:k=w1.heap.size:=hk;omega))) (Nat.le_refl _);have hcu:u.cell? ⟨w1.heap.size,j,none⟩=some (.slice (some ⟨wr.heap.size,0,none⟩) V V):=by
      rw [cell_of_row _ _ _ _ _ _ hgu,Array.getElem?_setIfInBounds,if_pos rfl,if_pos (by rw [E.out.fil.size];exact hlt)]
     obtain⟨w2,hcp,hm2,hf2⟩:=jhG (cd:=V) hmu (by simp) hsu 3;have hji:(j:Int)<(k:Int):=by omega
     have hcut:(l.drop (j*V)).take V ++(List.replicate V (0:UInt8)).drop ((l.drop (j*V)).take V).length=cutR l V j:=by rw [List.drop_replicate];exact jqX l V j
     rw [hcut] at hm2;have hmin:min n' V<=n':=Nat.min_le_left _ _;have hne:wr.heap.size≠w1.heap.size:=by omega
     have hw2:=heap_setCell_same u 0 0;have hg2:=hf2.row_some hgu (show ¬w1.heap.size=wr.heap.size by omega);have hE2:Enc w1 w1.heap.size k (cur.setIfInBounds j (.slice (some ⟨wr.heap.size,0,none⟩) (cutR l V j).length V)) (cutL l V j ++ [cutR l V j]) w2:=by
      have hf12:Fr (λ k=>k=w1.heap.size) wr w2:=by
       refine⟨hf2.os.trans hfu.os,hf2.tape.trans hfu.tape,hf2.output.trans hfu.output,Nat.le_trans hfu.size hf2.size,λ b hb hnb=> ?_⟩;exact(hf2.block b (Nat.lt_of_lt_of_le hb hfu.size) (show ¬b=wr.heap.size by omega)).trans (hfu.block b hb hnb)
      have hsl2:Sl w2 1 (some ⟨wr.heap.size,0,none⟩) (cutR l V j).length V (cells (cutR l V j)):=by rw [jaI];exact hm2.sl (jaI _ _ _) (Nat.le_refl _) (by unfold maxLen;omega)
      exact⟨E.out.bel.trans (hf12.below (by have:=E.out.bel.size;omega) (λ k hk=>by have hk:k=w1.heap.size:=hk;omega)),E.out.fil.next hf12 (jaU _ _ _) hlt (by rw [jaI];exact hg2) hsl2 (λ b o hn e=>by injection e with e;injection e with e _;omega),Nat.le_refl _⟩
     rw [jhF] at hE2;have E2:=qH hE2;have Hu:=qH hu;have Hnext:=qH (show Sl w 1 (A'.map (·.add (min n' V))) (n'-min n' V) (c'-min n' V) (cells (l.drop ((j+1)*V))) from by
      have:=Hsl0.out.sub1 (min n' V) n' (c'-min n' V) (by omega) (Nat.le_refl _) (by omega) (by unfold maxLen;omega);rw [List.drop_drop,List.take_of_length_le (by rw [List.length_drop];have:=Hn'.out;rw [List.length_drop] at this;omega)] at this
      rcases Nat.le_total V n' with hvn|hvn
      ·rw [Nat.min_eq_right hvn] at this ⊢
       rwa [show j*V+V=(j+1)*V by rw [Nat.add_mul,Nat.one_mul]] at this
      ·rw [Nat.min_eq_left hvn] at this ⊢
       have e1:l.drop (j*V+n')= []:=List.drop_of_length_le (by have:=Hn'.out;rw [List.length_drop] at this;omega);have e2:l.drop ((j+1)*V)= []:=List.drop_of_length_le (by have:=Hn'.out;rw [List.length_drop] at this;rw [Nat.add_mul,Nat.one_mul];omega);rw [e1] at this;rw [e2];exact this)
     clear hE2 hm2 hf2 hsu hmu hgu hfu hz0 hv0 hb2 hrw hg2 hw2 hcut hne;obtain⟨q,hq⟩:∃q,q=min n' V:=⟨_,rfl⟩;have hcq:c'-q<=c':=Nat.sub_le _ _;rw [<-hq] at Hnext hmin hcp;rw [hu] at hcu hcp;clear hq hu hszs Hu;go_wp2_with fail;go_roundw
     case rel=>exact⟨j+1,_,_,_,_,by omega,by go_num,rfl,by
      split
      ·have hS:=Hnext.out
       have hz:n'-q=0:=by omega
       rw [hz] at hS ⊢;have hcl:cells (l.drop ((j+1)*V))= []:=List.eq_nil_of_length_eq_zero (by have:=hS.len;rw [Nat.zero_mul] at this;exact this);rw [hcl];exact Sl.empty _ _ _ _ hS.top
      ·exact Hnext.out,E2.out⟩
     case measure=>simp [intOf];omega
    ·obtain rfl:j=k:=by omega
     go_wp2_with fail;go_ret2;exact⟨Hb1.out.trans (E.out.bel.mono hsz1), .inr (.inr ⟨⟨hV1,hV2⟩,by rw [hKVi];omega,w1.heap.size,rfl,by rw [HWV.out,Int.toNat_natCast];exact E.out.fil.gr (jaU _ _ _) (by unfold maxLen;omega)⟩)⟩
 ·by_cases hlow:W<1
  ·go_enter Tryz.func92,Tryz.ntmps92
   go_wp2_with fail;refine hm.mono ?_;clear hm;rintro e w1 ⟨rfl,j,hw1⟩;have hb1:Below w.heap.size w w1:=by rw [hw1];exact below_drewN (Below.refl _ _) j
   clear hw1;have Hin:=qH hin;clear hin;go_wp2_with fail;go_ret2;exact⟨hb1, .inl ⟨Hin.out,rfl⟩⟩
  ·have hhi:65536<W:=by omega
   go_enter Tryz.func92,Tryz.ntmps92;go_wp2_with fail;refine hm.mono ?_;clear hm;rintro e w1 ⟨rfl,j,hw1⟩;have hb1:Below w.heap.size w w1:=by rw [hw1];exact below_drewN (Below.refl _ _) j
   clear hw1;have Hin:=qH hin;clear hin;go_wp2_with fail;go_ret2;exact⟨hb1, .inl ⟨Hin.out,rfl⟩⟩
end
section
theorem jdN {rs:List (List UInt8)}{W:Nat}:∀j,j<=rs.length->(∀i,i<rs.length->(rs.getD i []).length=W)->(rs.take j).flatten.length=j*W
 |0,_,_=>by simp
 |j+1,hj,h=>by
  rw [<-List.take_append_getElem (show j<rs.length by omega),List.flatten_append,List.length_append,jdN j (by omega) h,Nat.add_mul,Nat.one_mul];have:=h j (by omega);rw [show rs.getD j []=rs[j]'(by omega) from by simp [show j<rs.length by omega]] at this;simp [this]
theorem jpa {rs:List (List UInt8)}(h:jbP rs=true):rs.flatten.length=rs.length*(rs.getD 0 []).length:=by
 have:=jdN (rs:=rs) (W:=(rs.getD 0 []).length) rs.length (Nat.le_refl _) (λ i hi=>jbt h hi)
 rwa [List.take_of_length_le (Nat.le_refl _)] at this
theorem jhH {rs:List (List UInt8)}{j:Nat}(hj:j<rs.length)(S:Nat):(rs.take j).flatten.take S ++(rs.getD j []).take (S-(rs.take j).flatten.length)=(rs.take (j+1)).flatten.take S:=by
 rw [<-List.take_append_getElem hj,List.flatten_append,List.take_append]
 congr 2
 simp [hj]
def okJ (rs:List (List UInt8))(k S:Int):Prop:=jca rs k=true∧0<=S∧S<=(rs.flatten.length:Int)
end
end Go.Proofs.YtmhejbihdghhaaaGreatDoor

/-
  Contracts of slices.Concat over bytes and of package frame's piece
-/
import Derived.Test.YtmhejbihdghhaaaGreatDoorQcar
import Derived.Test.YtmhejbihdghhaaaGreatDoorQcag
import Derived.Deep.DeepCutAuto
import Derived.Deep.LoopGhost
import Derived.RegionTactic
import Derived.Outline
import Derived.WalkMore
namespace Go.Proofs.YtmhejbihdghhaaaGreatDoor
set_option linter.unusedVariables false
section
open Go.RowKit Go.Proofs
set_option maxRecDepth 20000
set_option maxHeartbeats 1600000
theorem run_append_own {w:World}{B n c m:Nat}{A A2:Option Addr}{c2:Nat}{xs:List Value}{ys:List UInt8}(h:w.ownsRow B 5 1 (.slice A n c) n xs)(hsl:Sl w 1 A n c xs)(hB:B<=w.heap.size)
  (hs:Sl w 1 A2 m c2 (cells ys))(h47:n+m<=140737488355328)(ty:TypeId):
  ∃A' c' w',(Builtin.append_ #[105,105] ty #[.slice A n c, .slice A2 m c2]).run Tryz.prog w= .ok (.slice A' (n+m) c') w' ∧Sl w' 1 A' (n+m) c' (xs++cells ys)∧Below B w w' ∧w'.ownsRow B 5 1 (.slice A' (n+m) c') (n+m) (xs++cells ys):=by
 obtain⟨i0,hi,hz0,hz1,hz2⟩:=info_parts jbf
 by_cases hm:m=0
 ·subst hm
  have hy:cells ys= []:=List.eq_nil_of_length_eq_zero (by simpa using hs.len);have hsr:=hs.src (P:=Tryz.prog) Tryz.underlying105 (by decide) (cells_one ys);rw [hy] at hsr ⊢;exact⟨A,c,w,run_append_nothing w 105 105 ty 5 i0 Tryz.underlying105 hi A n c hsl.cap _ (by rw [hz1];exact hsr),by simpa using hsl,Below.refl _ _,by simpa using h⟩
 ·obtain⟨A',c',w',hr,h2,h3,h4⟩:=jaK (P:=Tryz.prog) 105 105 ty i0 (.int .u8 0) 1 Tryz.underlying105 hi hz0 hz1 hz2 rfl (by decide) ⟨hsl, .inr h⟩ hB (.slice A2 m c2) m (cells ys) (hs.src Tryz.underlying105 (by decide) (cells_one ys)) (by unfold maxLen;omega) (by omega)
  exact⟨A',c',w',hr,h2.sl,h3,h4 (by omega)⟩
theorem wpList_append_own {w:World}{B n c:Nat}{A:Option Addr}{xs:List Value}{ops:Array Oper}{rest:List Oper}{o:Oper}{a:Act}{Q:Exit->Act->World->Prop}(hgd:o.guard=none)(s x:Operand)
  (ho:o.op= .call {callee:= .builtin .append,args:= #[s,x],argTypes:= #[105,105]})
  (hv:a.eval s= .slice A n c)(h:w.ownsRow B 5 1 (.slice A n c) n xs)(hsl:Sl w 1 A n c xs)(hB:B<=w.heap.size)
  (A2:Option Addr)(m c2:Nat)(ys:List UInt8)(hx:a.eval x= .slice A2 m c2)(hs:Sl w 1 A2 m c2 (cells ys))(h47:n+m<=140737488355328)
  (hk:∀A' c' w',Sl w' 1 A' (n+m) c' (xs++cells ys)->w'.ownsRow B 5 1 (.slice A' (n+m) c') (n+m) (xs++cells ys)->Below B w w' ->wpList Tryz.prog ops Q rest (a.put o.dst (.slice A' (n+m) c')) w'):wpList Tryz.prog ops Q (o::rest) a w:=by
 obtain⟨A',c',w',hr,h2,h3,h4⟩:=run_append_own h hsl hB hs h47 o.type;refine wpList_plain hgd λ _ hK=> ?_
 unfold Oper.wp execOp;simp only [ho,resolve,invoke,builtin,Sem.run_bind,Sem.run_pure,Result.andThen_ok,List.map_toArray,List.map_cons,List.map_nil,hv,hx,hr];exact hK _ _ (hk A' c' w' h2 h4 h3)
theorem Own.row0 {w:World}{B c:Nat}{T:TypeId}{A:Option Addr}(h:Own w B T 1 A 0 c [])(hc:0<c):w.ownsRow B T 1 (.slice A 0 c) 0 []:=h.own.resolve_left (by omega)
theorem grow17 (k:Nat)(hk0:0<k)(hk1:k<=1000000)(w:World):
  Calls Tryz.prog 233 #[.slice none 0 0, .int .i64 (k:Int)] w λ e w' =>∃A' c',e= .returned (.slice A' 0 c')∧Sl w' 1 A' 0 c' []∧w'.ownsRow w.heap.size 5 1 (.slice A' 0 c') 0 []∧Below w.heap.size w w':=by
 have h1:¬(k:Int)<0:=by omega
 have h2:(0:Int)<(k:Int):=by omega
 go_enter Tryz.func233,Tryz.ntmps233;go_wp2_with (at_builtin;refine jd1 (B:=w.heap.size) rfl (.tmp 20) (.tmp 21) rfl rfl (Nat.le_refl _) k rfl hk0 hk1 ?_);intro A' c' w1 ho hc hm hb;have HO:=qH ho;have HB:=qH hb;have HC:=qH hc;unfold maxLen at hm;clear ho hb;go_wp2_with fail;go_ret;exact⟨A',c',rfl,HO.out.sl,HO.out.row0 (by have:=HC.out;omega),HB.out⟩
theorem ja7 (rs:List (List UInt8))(i:Nat):(rs.take i).flatten.length<=rs.flatten.length:=by
 conv=>rhs;rw [<-List.take_append_drop i rs,List.flatten_append,List.length_append]
 omega
theorem jbo {rs:List (List UInt8)}{i:Nat}{r:List UInt8}(h:rs[i]? =some r):(rs.take (i+1)).flatten=(rs.take i).flatten++r:=by
 rw [List.take_add_one,h,List.flatten_append];simp
theorem jpT (A:Option Addr)(n c:Nat)(rs:List (List UInt8))(w:World)(h:Gr w A n c rs)(h0:0<rs.flatten.length)(hb:rs.flatten.length<=1000000)(hn:n<=1000):
  Calls Tryz.prog 194 #[.slice A n c] w λ e w' =>∃A' n' c',e= .returned (.slice A' n' c')∧Sl w' 1 A' n' c' (cells rs.flatten)∧Mine w' w.heap.size 5 A' n' (cells rs.flatten)∧Below w.heap.size w w':=by
 have HH:=qH h;have HBD:=qH hb;have H0:=qH h0;clear h h0 hb;obtain⟨t,ht⟩:∃t,t=rs.flatten.length:=⟨_,rfl⟩;have HT:=qH ht;have hgr:=grow17 t (by have:=H0.out;omega) (by have:=HBD.out;omega);clear ht;go_enter Tryz.func194,Tryz.ntmps194;go_wp2_with fail;go_loopw [3,11] (λ v iv wr=>wr=w∧∃(i s:Nat),i<=n∧s=(rs.take i).flatten.length∧v= .int .i64 (s:Int)∧iv= .int .i64 (i:Int)) (λ _ iv _=>n-(intOf iv).toNat)
 case atStart=>exact⟨rfl,0,0,by omega,rfl,rfl,rfl⟩
 case round=>
  obtain⟨hwr,i,s,hi,hs,rfl,rfl⟩:=hrel;obtain rfl:w=wr:=hwr.symm;have hsl:s<=1000000:=by have:=ja7 rs i;have:=HBD.out;omega
  have HS:=qH hs;clear hs
  by_cases hlt:i<n
  ·have hii:(i:Int)<(n:Int):=by omega
   obtain⟨b,o,rfl,hcc⟩:=HH.out.at_ (by omega);have hget:=HH.out.get hlt;obtain⟨r,hr⟩:∃r,r=rs.getD i []:=⟨_,rfl⟩;rw [<-hr] at hget;obtain⟨A1,c1,hc1,hs1⟩:=hcc i r hget;have hsn:=jbo hget;have hle:=ja7 rs (i+1);rw [hsn,List.length_append] at hle;have hlr:s+r.length<=1000000:=by have:=HS.out;have:=HBD.out;omega
   have HSN:=qH hsn;have q1:¬((s:Int) +(r.length:Int))<0:=by omega
   clear hget hr hsn hle hcc hs1;go_wp2_with fail;go_roundw
   case rel=>exact⟨trivial,i+1,s+r.length,by omega,by rw [HSN.out,List.length_append,<-HS.out],by first|rfl|go_num,by first|rfl|go_num⟩
   case measure=>simp [intOf];omega
  ·obtain rfl:n=i:=by omega
   obtain rfl:s=t:=by
    have h1:=HS.out;rw [List.take_of_length_le (by rw [HH.out.len];exact Nat.le_refl _)] at h1;rw [h1,HT.out]
   go_wp2_with fail;refine(hgr w).mono ?_;clear hgr;rintro e w1 ⟨A3,c3,rfl,hsl3,ho,hb⟩;have HSL:=qH hsl3;have HO:=qH ho;have HB:=qH hb;clear ho hb hsl3;go_wp2_with fail;go_loopw [6,27] (λ v iv wq=>∃(i n4:Nat) (A4:Option Addr) (c4:Nat),i<=n∧v= .slice A4 n4 c4∧iv= .int .i64 (i:Int)∧n4=(rs.take i).flatten.length∧Sl wq 1 A4 n4 c4 (cells (rs.take i).flatten)∧wq.ownsRow w.heap.size 5 1 (.slice A4 n4 c4) n4 (cells (rs.take i).flatten)∧Below w.heap.size w wq) (λ _ iv _=>n-(intOf iv).toNat)
   case atStart=>exact⟨0,0,A3,c3,by omega,rfl,rfl,rfl,HSL.out,HO.out,HB.out⟩
   case round=>
    obtain⟨i,n4,A4,c4,hi,rfl,rfl,hn4,hs4,ho4,hb4⟩:=hrel;have HS4:=qH hs4;have HO4:=qH ho4;have HB4:=qH hb4;have HN4:=qH hn4;clear hs4 ho4 hb4 hn4
    by_cases hlt:i<n
    ·have hii:(i:Int)<(n:Int):=by omega
     obtain⟨b,o,rfl,hcc⟩:=(HH.out.later HB4.out).at_ (by omega);have hget:=HH.out.get hlt;obtain⟨r,hr⟩:∃r,r=rs.getD i []:=⟨_,rfl⟩;rw [<-hr] at hget;obtain⟨A1,c1,hc1,hs1⟩:=hcc i r hget;have hsn:=jbo hget;have hle:=ja7 rs (i+1);rw [hsn,List.length_append] at hle;have hlr:n4+r.length<=1000000:=by have:=HN4.out;have:=HBD.out;omega
     have HSN:=qH hsn;have HS1:=qH hs1;clear hget hr hsn hle hcc hs1;go_wp2_with (at_builtin;refine wpList_append_own (B:=w.heap.size) rfl (.tmp 31) (.tmp 32) rfl rfl HO4.out HS4.out HB4.out.size A1 r.length c1 r rfl HS1.out (by omega) ?_);intro A5 c5 w5 hs5 ho5 hb5;rw [<-jai,<-HSN.out] at hs5 ho5;have HS5:=qH hs5;have HO5:=qH ho5;have HB5:=qH (HB4.out.trans hb5);clear hs5 ho5 hb5 hc1;go_wp2_with fail;go_roundw
     case rel=>exact⟨i+1,n4+r.length,A5,c5,by omega,rfl,by first|rfl|go_num,by rw [HSN.out,List.length_append,<-HN4.out],HS5.out,HO5.out,HB5.out⟩
     case measure=>simp [intOf];omega
    ·obtain rfl:n=i:=by omega
     have e:rs.take n=rs:=List.take_of_length_le (by rw [HH.out.len];exact Nat.le_refl _);have EE:=qH e;clear e;go_wp2_with fail;go_ret;have h1:=HS4.out;have h2:=HO4.out;rw [EE.out] at h1 h2;exact⟨A4,n4,c4,rfl,h1,Mine.of_own h2,HB4.out⟩
theorem jhf {w:World}{B n cd k m c:Nat}{g:Nat}{A:Option Addr}{r d:List UInt8}(h:Mine w B 5 (some ⟨g,0,none⟩) n (cells d))(hd:d.length=n)(hs:Sl w 1 A m c (cells r))(hm:0<m)(hk:k+m<=n)(ty:TypeId):
  ∃w',(Builtin.copy_ #[105,105] ty #[.slice (some ⟨g,k,none⟩) (n-k) cd, .slice A m c]).run Tryz.prog w= .ok (.int .i64 (m:Int)) w' ∧Mine w' B 5 (some ⟨g,0,none⟩) n (cells (d.take k++r++d.drop (k+m)))∧Fr (λ k=>k=g) w w':=by
 have hl:=hs.len;rw [Nat.mul_one] at hl;have hrl:r.length=m:=by rw [jaa] at hl;exact hl
 have su:(Tryz.prog.info? 5).map (·.size)=some 1:=by kernel_rfl
 obtain⟨g',cur,hg',hB,hrow,hcur,ht⟩:=h (by omega);injection hg' with hg'
 injection hg' with hg' _
 subst hg';obtain⟨b,o,rfl,hc⟩:=hs.at_ (k:=0) (by omega);have hmin:Nat.min m (n-k)=m:=Nat.min_eq_left (by omega);have hr:=run_copy_row (P:=Tryz.prog) w 105 105 ty 5 g k (n-k) cd ⟨b,o,none⟩ m c cur 5 (cells r) Tryz.underlying105 su hrow (by rw [hl,hmin]) (λ j v hv=>by
  rw [show (⟨b,o,none⟩:Addr).add j=⟨b,o+j,none⟩ from by unfold Addr.add;split<;>simp_all];exact hc j v hv) (by rw [hl];omega) (cells_one r)
 rw [hl] at hr;refine⟨_,hr,λ _=>⟨g,_,rfl,hB,setRow_heap _ _ _ _ _ _ hrow, ?_, ?_⟩,⟨rfl,rfl,rfl,by simp,λ k hk hne=>setRow_other _ _ k _ hne⟩⟩
 ·simp only [List.size_toArray,List.length_append,List.length_take,List.length_drop,Array.length_toList,hl]
  omega
 ·have hdl:(cells d).length=n:=by rw [jaa,hd]
  have e1:cur.toList.take k=cells (d.take k):=by
   rw [jc7,<-ht,List.take_take,Nat.min_eq_left (by omega)]
  have e2:(cur.toList.drop (k+m)).take (n-(k+m))=cells (d.drop (k+m)):=by
   rw [jc8,<-ht,List.drop_take]
  have l1:(cells (d.take k)++cells r).length=k+m:=by rw [List.length_append,jaa,jaa,List.length_take,hrl];omega
  rw [e1]
  show List.take n (cells (List.take k d)++cells r++List.drop (k+m) cur.toList)=_
  rw [List.take_append,l1,List.take_of_length_le (by rw [l1];exact hk),e2,jai,jai]
theorem jry (m:UInt8)(t:List UInt8): [[m],le 2 t.length,List.replicate 4 0,t].flatten=hdF m t++List.replicate 4 0++t:=by simp [hdF]
theorem jrz (m:UInt8)(t:List UInt8)(s:W32)(d:List UInt8)(hd:d=hdF m t++List.replicate 4 0++t):d.take 3++le 4 (smP s d).toNat++d.drop (3+4)=pcF m t s:=by
 have h3:=jen m t;have e1:d.take 3=hdF m t:=by
  have:=List.take_left (l₁:=hdF m t) (l₂:=List.replicate 4 0++t);rw [h3] at this;rw [hd,List.append_assoc];exact this
 have e2:d.drop 7=t:=by
  have:=List.drop_left (l₁:=hdF m t++List.replicate 4 0) (l₂:=t);rw [List.length_append,h3,List.length_replicate] at this;rw [hd];exact this
 rw [smP,e1,show 3+4=7 from rfl,e2]
 rfl
theorem jn7 (m:UInt8)(A:Option Addr)(n c:Nat)(t:List UInt8)(s:W32)(w:World)(h:Sl w 1 A n c (cells t))(hn:n<=65535)(hN:Nt w):
  Calls Tryz.prog 134 #[.int .u8 (m.toNat:Int), .slice A n c, .int .u32 (s.toNat:Int)] w (jcw w.heap.size w (pcF m t s)):=by
 have hl:=h.len;rw [jaa,Nat.mul_one] at hl;have HS:=qH h;have NT:=qH hN;have HL:=qH hl;have e1:IntKind.u64.wrap (n:Int)=(n:Int):=by rw [IntKind.wrap_u64];omega
 have hmk:=λ W=>jb9 4 4 rfl (by decide) W
 clear h hN hl;go_enter Tryz.func134,Tryz.ntmps134;go_wp2_with fail;refine wp_region_held_drew (S:=λ w' =>Below w.heap.size w w') (by kernel_rfl) (Below.drew (Below.refl _ _)) (λ hHeld=> ?_);clear hHeld;have hHeld:Below w.heap.size w w.drew:=Below.drew (Below.refl _ _);have hz_0:w.heap.size<=w.drew.heap.size∧w.drew.heap.size<=w.heap.size:=⟨Nat.le_refl _,Nat.le_refl _⟩;obtain⟨v_W0,hw⟩:∃v_W0,v_W0=w.drew:=⟨_,rfl⟩;rw [<-hw] at hHeld hz_0 ⊢;clear hw;refine tA 0 (some 8) rfl hHeld ?_;refine tA 2 (some 10) rfl hHeld ?_;refine tA 3 (some 11) rfl hHeld ?_;refine tA 4 (some 12) rfl hHeld ?_;refine tA 7 (some 15) rfl hHeld ?_;refine wpAnyH_ready (rs:= [1,5,6]) (by kernel_rfl) (by simp) ?_;refine AllReadyH.cons (o:=⟨some 9,_,_,_,_,_⟩) rfl (λ K hK=> ?_) (AllReadyH.cons (o:=⟨some 13,_,_,_,_,_⟩) rfl (λ K hK=> ?_) (AllReadyH.cons (o:=⟨some 14,_,_,_,_,_⟩) rfl (λ K hK=> ?_) (AllReadyH.nil)))
 focus
  go_simp;obtain⟨g_m,hg⟩:∃g,g=v_W0.heap.size:=⟨_,rfl⟩;have hbN:Below v_W0.heap.size v_W0 (v_W0.alloc (.cells #[.int .u8 (m.toNat:Int)] 5)):=(Below.refl _ _).alloc (Nat.le_refl _) _;have hx:=heap_alloc_new v_W0 (.cells #[.int .u8 (m.toNat:Int)] 5);have hz_3:v_W0.heap.size+1<=(v_W0.alloc (.cells #[.int .u8 (m.toNat:Int)] 5)).heap.size∧(v_W0.alloc (.cells #[.int .u8 (m.toNat:Int)] 5)).heap.size<=v_W0.heap.size+1:=by simp
  obtain⟨v_W1,hw⟩:∃v_W1,v_W1=v_W0.alloc (.cells #[.int .u8 (m.toNat:Int)] 5):=⟨_,rfl⟩;rw [<-hw] at hbN hx hz_3 ⊢;clear hw;rw [<-hg] at hx ⊢;have hHeld:=hHeld.trans (hbN.mono hHeld.size);have hfN:Fr (λ _=>False) v_W0 v_W1:=Fr.of_below hbN;have blm_L1:=qH hx;clear hx;have hz_5:g_m<=v_W0.heap.size∧v_W0.heap.size<=g_m:=by omega
  clear hg hbN;refine hK.out _ _ hHeld λ _=> ?_
  clear hK K hfN
  try simp only [Act.put,sA,sB,sC]
 rotate_left
 focus
  go_simp;refine(jfH none 0 0 [] 2 n v_W0 (Sl.nil v_W0 1 0 (by decide)) (by decide) (by decide) (by decide) (by omega)).mono ?_;rintro e v_W1 ⟨A5,n5,c5,rfl,hs5,hbN⟩;rw [List.nil_append] at hs5;have hq5:=hs5.len;rw [jaa,jak] at hq5;obtain rfl:n5=2:=by omega
  have S5_L1:=qH hs5;clear hs5 hq5;go_wp2_with fail;have hHeld:=hHeld.trans (hbN.mono hHeld.size);have hfN:Fr (λ _=>False) v_W0 v_W1:=Fr.of_below hbN;have hz_7:=hbN.size;clear hbN;refine hK.out _ _ hHeld λ _=> ?_
  clear hK K hfN
  try simp only [Act.put,sA,sB,sC]
 rotate_left
 focus
  go_simp;obtain⟨g_z,hg⟩:∃g,g=v_W0.heap.size:=⟨_,rfl⟩;have hbN:Below v_W0.heap.size v_W0 (v_W0.alloc (.cells (madeCells #[.int .u8 0] 4) 5)):=(Below.refl _ _).alloc (Nat.le_refl _) _;have hx:=heap_alloc_new v_W0 (.cells (madeCells #[.int .u8 0] 4) 5);have hz_9:v_W0.heap.size+1<=(v_W0.alloc (.cells (madeCells #[.int .u8 0] 4) 5)).heap.size∧(v_W0.alloc (.cells (madeCells #[.int .u8 0] 4) 5)).heap.size<=v_W0.heap.size+1:=by simp
  obtain⟨v_W1,hw⟩:∃v_W1,v_W1=v_W0.alloc (.cells (madeCells #[.int .u8 0] 4) 5):=⟨_,rfl⟩;rw [<-hw] at hbN hx hz_9 ⊢;clear hw;rw [<-hg] at hx ⊢;have hHeld:=hHeld.trans (hbN.mono hHeld.size);have hfN:Fr (λ _=>False) v_W0 v_W1:=Fr.of_below hbN;have blz_L1:=qH hx;clear hx;have hz_11:g_z<=v_W0.heap.size∧v_W0.heap.size<=g_z:=by omega
  clear hg hbN;refine hK.out _ _ hHeld λ _=> ?_
  clear hK K hfN
  try simp only [Act.put,sA,sB,sC]
 rotate_left
 all_goals first
  |
   refine wpAnyH_ready (rs:= [5,6]) (by kernel_rfl) (by simp) ?_;refine AllReadyH.cons (o:=⟨some 13,_,_,_,_,_⟩) rfl (λ K hK=> ?_) (AllReadyH.cons (o:=⟨some 14,_,_,_,_,_⟩) rfl (λ K hK=> ?_) (AllReadyH.nil))
   focus
    go_simp;refine(jfH none 0 0 [] 2 n v_W1 (Sl.nil v_W1 1 0 (by decide)) (by decide) (by decide) (by decide) (by omega)).mono ?_;rintro e v_W2 ⟨A5,n5,c5,rfl,hs5,hbN⟩;rw [List.nil_append] at hs5;have hq5:=hs5.len;rw [jaa,jak] at hq5;obtain rfl:n5=2:=by omega
    have S5_L2:=qH hs5;clear hs5 hq5;go_wp2_with fail;have hHeld:=hHeld.trans (hbN.mono hHeld.size);have hfN:Fr (λ _=>False) v_W1 v_W2:=Fr.of_below hbN;have hz_13:=hbN.size;have blm_L2:=qH (hfN.row_some blm_L1.out id);clear blm_L1;clear hbN;refine hK.out _ _ hHeld λ _=> ?_
    clear hK K hfN
    try simp only [Act.put,sA,sB,sC]
   rotate_left
   focus
    go_simp;obtain⟨g_z,hg⟩:∃g,g=v_W1.heap.size:=⟨_,rfl⟩;have hbN:Below v_W1.heap.size v_W1 (v_W1.alloc (.cells (madeCells #[.int .u8 0] 4) 5)):=(Below.refl _ _).alloc (Nat.le_refl _) _;have hx:=heap_alloc_new v_W1 (.cells (madeCells #[.int .u8 0] 4) 5);have hz_16:v_W1.heap.size+1<=(v_W1.alloc (.cells (madeCells #[.int .u8 0] 4) 5)).heap.size∧(v_W1.alloc (.cells (madeCells #[.int .u8 0] 4) 5)).heap.size<=v_W1.heap.size+1:=by simp
    obtain⟨v_W2,hw⟩:∃v_W2,v_W2=v_W1.alloc (.cells (madeCells #[.int .u8 0] 4) 5):=⟨_,rfl⟩;rw [<-hw] at hbN hx hz_16 ⊢;clear hw;rw [<-hg] at hx ⊢;have hHeld:=hHeld.trans (hbN.mono hHeld.size);have hfN:Fr (λ _=>False) v_W1 v_W2:=Fr.of_below hbN;have blm_L2:=qH (hfN.row_some blm_L1.out id);clear blm_L1;have blz_L2:=qH hx;clear hx;have hz_19:g_z<=v_W1.heap.size∧v_W1.heap.size<=g_z:=by omega
    clear hg hbN;refine hK.out _ _ hHeld λ _=> ?_
    clear hK K hfN
    try simp only [Act.put,sA,sB,sC]
   rotate_left
  |
   refine wpAnyH_ready (rs:= [1,6]) (by kernel_rfl) (by simp) ?_;refine AllReadyH.cons (o:=⟨some 9,_,_,_,_,_⟩) rfl (λ K hK=> ?_) (AllReadyH.cons (o:=⟨some 14,_,_,_,_,_⟩) rfl (λ K hK=> ?_) (AllReadyH.nil))
   focus
    go_simp;obtain⟨g_m,hg⟩:∃g,g=v_W1.heap.size:=⟨_,rfl⟩;have hbN:Below v_W1.heap.size v_W1 (v_W1.alloc (.cells #[.int .u8 (m.toNat:Int)] 5)):=(Below.refl _ _).alloc (Nat.le_refl _) _;have hx:=heap_alloc_new v_W1 (.cells #[.int .u8 (m.toNat:Int)] 5);have hz_21:v_W1.heap.size+1<=(v_W1.alloc (.cells #[.int .u8 (m.toNat:Int)] 5)).heap.size∧(v_W1.alloc (.cells #[.int .u8 (m.toNat:Int)] 5)).heap.size<=v_W1.heap.size+1:=by simp
    obtain⟨v_W2,hw⟩:∃v_W2,v_W2=v_W1.alloc (.cells #[.int .u8 (m.toNat:Int)] 5):=⟨_,rfl⟩;rw [<-hw] at hbN hx hz_21 ⊢;clear hw;rw [<-hg] at hx ⊢;have hHeld:=hHeld.trans (hbN.mono hHeld.size);have hfN:Fr (λ _=>False) v_W1 v_W2:=Fr.of_below hbN;have S5_L2:=qH (S5_L1.out.fr hfN (λ _ _ _ _ h=>h));clear S5_L1;have blm_L2:=qH hx;clear hx;have hz_24:g_m<=v_W1.heap.size∧v_W1.heap.size<=g_m:=by omega
    clear hg hbN;refine hK.out _ _ hHeld λ _=> ?_
    clear hK K hfN
    try simp only [Act.put,sA,sB,sC]
   rotate_left
   focus
    go_simp;obtain⟨g_z,hg⟩:∃g,g=v_W1.heap.size:=⟨_,rfl⟩;have hbN:Below v_W1.heap.size v_W1 (v_W1.alloc (.cells (madeCells #[.int .u8 0] 4) 5)):=(Below.refl _ _).alloc (Nat.le_refl _) _;have hx:=heap_alloc_new v_W1 (.cells (madeCells #[.int .u8 0] 4) 5);have hz_26:v_W1.heap.size+1<=(v_W1.alloc (.cells (madeCells #[.int .u8 0] 4) 5)).heap.size∧(v_W1.alloc (.cells (madeCells #[.int .u8 0] 4) 5)).heap.size<=v_W1.heap.size+1:=by simp
    obtain⟨v_W2,hw⟩:∃v_W2,v_W2=v_W1.alloc (.cells (madeCells #[.int .u8 0] 4) 5):=⟨_,rfl⟩;rw [<-hw] at hbN hx hz_26 ⊢;clear hw;rw [<-hg] at hx ⊢;have hHeld:=hHeld.trans (hbN.mono hHeld.size);have hfN:Fr (λ _=>False) v_W1 v_W2:=Fr.of_below hbN;have S5_L2:=qH (S5_L1.out.fr hfN (λ _ _ _ _ h=>h));clear S5_L1;have blz_L2:=qH hx;clear hx;have hz_29:g_z<=v_W1.heap.size∧v_W1.heap.size<=g_z:=by omega
    clear hg hbN;refine hK.out _ _ hHeld λ _=> ?_
    clear hK K hfN
    try simp only [Act.put,sA,sB,sC]
   rotate_left
  |
   refine wpAnyH_ready (rs:= [1,5]) (by kernel_rfl) (by simp) ?_;refine AllReadyH.cons (o:=⟨some 9,_,_,_,_,_⟩) rfl (λ K hK=> ?_) (AllReadyH.cons (o:=⟨some 13,_,_,_,_,_⟩) rfl (λ K hK=> ?_) (AllReadyH.nil))
   focus
    go_simp;obtain⟨g_m,hg⟩:∃g,g=v_W1.heap.size:=⟨_,rfl⟩;have hbN:Below v_W1.heap.size v_W1 (v_W1.alloc (.cells #[.int .u8 (m.toNat:Int)] 5)):=(Below.refl _ _).alloc (Nat.le_refl _) _;have hx:=heap_alloc_new v_W1 (.cells #[.int .u8 (m.toNat:Int)] 5);have hz_31:v_W1.heap.size+1<=(v_W1.alloc (.cells #[.int .u8 (m.toNat:Int)] 5)).heap.size∧(v_W1.alloc (.cells #[.int .u8 (m.toNat:Int)] 5)).heap.size<=v_W1.heap.size+1:=by simp
    obtain⟨v_W2,hw⟩:∃v_W2,v_W2=v_W1.alloc (.cells #[.int .u8 (m.toNat:Int)] 5):=⟨_,rfl⟩;rw [<-hw] at hbN hx hz_31 ⊢;clear hw;rw [<-hg] at hx ⊢;have hHeld:=hHeld.trans (hbN.mono hHeld.size);have hfN:Fr (λ _=>False) v_W1 v_W2:=Fr.of_below hbN;have blz_L2:=qH (hfN.row_some blz_L1.out id);clear blz_L1;have blm_L2:=qH hx;clear hx;have hz_34:g_m<=v_W1.heap.size∧v_W1.heap.size<=g_m:=by omega
    clear hg hbN;refine hK.out _ _ hHeld λ _=> ?_
    clear hK K hfN
    try simp only [Act.put,sA,sB,sC]
   rotate_left
   focus
    go_simp;refine(jfH none 0 0 [] 2 n v_W1 (Sl.nil v_W1 1 0 (by decide)) (by decide) (by decide) (by decide) (by omega)).mono ?_;rintro e v_W2 ⟨A5,n5,c5,rfl,hs5,hbN⟩;rw [List.nil_append] at hs5;have hq5:=hs5.len;rw [jaa,jak] at hq5;obtain rfl:n5=2:=by omega
    have S5_L2:=qH hs5;clear hs5 hq5;go_wp2_with fail;have hHeld:=hHeld.trans (hbN.mono hHeld.size);have hfN:Fr (λ _=>False) v_W1 v_W2:=Fr.of_below hbN;have hz_36:=hbN.size;have blz_L2:=qH (hfN.row_some blz_L1.out id);clear blz_L1;clear hbN;refine hK.out _ _ hHeld λ _=> ?_
    clear hK K hfN
    try simp only [Act.put,sA,sB,sC]
   rotate_left
 all_goals first
  |
   refine rW 6 (some 14) rfl λ K hK=> ?_
   go_simp;obtain⟨g_z,hg⟩:∃g,g=v_W2.heap.size:=⟨_,rfl⟩;have hbN:Below v_W2.heap.size v_W2 (v_W2.alloc (.cells (madeCells #[.int .u8 0] 4) 5)):=(Below.refl _ _).alloc (Nat.le_refl _) _;have hx:=heap_alloc_new v_W2 (.cells (madeCells #[.int .u8 0] 4) 5);have hz_39:v_W2.heap.size+1<=(v_W2.alloc (.cells (madeCells #[.int .u8 0] 4) 5)).heap.size∧(v_W2.alloc (.cells (madeCells #[.int .u8 0] 4) 5)).heap.size<=v_W2.heap.size+1:=by simp
   obtain⟨v_W3,hw⟩:∃v_W3,v_W3=v_W2.alloc (.cells (madeCells #[.int .u8 0] 4) 5):=⟨_,rfl⟩;rw [<-hw] at hbN hx hz_39 ⊢;clear hw;rw [<-hg] at hx ⊢;have hHeld:=hHeld.trans (hbN.mono hHeld.size);have hfN:Fr (λ _=>False) v_W2 v_W3:=Fr.of_below hbN;have blm_L3:=qH (hfN.row_some blm_L2.out id);clear blm_L2;have S5_L3:=qH (S5_L2.out.fr hfN (λ _ _ _ _ h=>h));clear S5_L2;have blz_L3:=qH hx;clear hx;have hz_43:g_z<=v_W2.heap.size∧v_W2.heap.size<=g_z:=by omega
   clear hg hbN;refine hK.out _ _ hHeld λ _=> ?_
   clear hK K hfN
   try simp only [Act.put,sA,sB,sC]
  |
   refine rW 5 (some 13) rfl λ K hK=> ?_
   go_simp;refine(jfH none 0 0 [] 2 n v_W2 (Sl.nil v_W2 1 0 (by decide)) (by decide) (by decide) (by decide) (by omega)).mono ?_;rintro e v_W3 ⟨A5,n5,c5,rfl,hs5,hbN⟩;rw [List.nil_append] at hs5;have hq5:=hs5.len;rw [jaa,jak] at hq5;obtain rfl:n5=2:=by omega
   have S5_L3:=qH hs5;clear hs5 hq5;go_wp2_with fail;have hHeld:=hHeld.trans (hbN.mono hHeld.size);have hfN:Fr (λ _=>False) v_W2 v_W3:=Fr.of_below hbN;have hz_45:=hbN.size;have blm_L3:=qH (hfN.row_some blm_L2.out id);clear blm_L2;have blz_L3:=qH (hfN.row_some blz_L2.out id);clear blz_L2;clear hbN;refine hK.out _ _ hHeld λ _=> ?_
   clear hK K hfN
   try simp only [Act.put,sA,sB,sC]
  |
   refine rW 1 (some 9) rfl λ K hK=> ?_
   go_simp;obtain⟨g_m,hg⟩:∃g,g=v_W2.heap.size:=⟨_,rfl⟩;have hbN:Below v_W2.heap.size v_W2 (v_W2.alloc (.cells #[.int .u8 (m.toNat:Int)] 5)):=(Below.refl _ _).alloc (Nat.le_refl _) _;have hx:=heap_alloc_new v_W2 (.cells #[.int .u8 (m.toNat:Int)] 5);have hz_49:v_W2.heap.size+1<=(v_W2.alloc (.cells #[.int .u8 (m.toNat:Int)] 5)).heap.size∧(v_W2.alloc (.cells #[.int .u8 (m.toNat:Int)] 5)).heap.size<=v_W2.heap.size+1:=by simp
   obtain⟨v_W3,hw⟩:∃v_W3,v_W3=v_W2.alloc (.cells #[.int .u8 (m.toNat:Int)] 5):=⟨_,rfl⟩;rw [<-hw] at hbN hx hz_49 ⊢;clear hw;rw [<-hg] at hx ⊢;have hHeld:=hHeld.trans (hbN.mono hHeld.size);have hfN:Fr (λ _=>False) v_W2 v_W3:=Fr.of_below hbN;have S5_L3:=qH (S5_L2.out.fr hfN (λ _ _ _ _ h=>h));clear S5_L2;have blz_L3:=qH (hfN.row_some blz_L2.out id);clear blz_L2;have blm_L3:=qH hx;clear hx;have hz_53:g_m<=v_W2.heap.size∧v_W2.heap.size<=g_m:=by omega
   clear hg hbN;refine hK.out _ _ hHeld λ _=> ?_
   clear hK K hfN
   try simp only [Act.put,sA,sB,sC]
 all_goals
  refine rW 8 (some 16) rfl λ K hK=> ?_
  go_simp;obtain⟨g_g,hg⟩:∃g,g=v_W3.heap.size:=⟨_,rfl⟩;have hbN:Below v_W3.heap.size v_W3 (v_W3.alloc (.cells #[.slice (some ⟨g_m,0,none⟩) 1 1, .slice A5 2 c5, .slice (some ⟨g_z,0,none⟩) 4 4, .slice A n c] 105)):=(Below.refl _ _).alloc (Nat.le_refl _) _;have hx:=heap_alloc_new v_W3 (.cells #[.slice (some ⟨g_m,0,none⟩) 1 1, .slice A5 2 c5, .slice (some ⟨g_z,0,none⟩) 4 4, .slice A n c] 105);have hz_55:v_W3.heap.size+1<=(v_W3.alloc (.cells #[.slice (some ⟨g_m,0,none⟩) 1 1, .slice A5 2 c5, .slice (some ⟨g_z,0,none⟩) 4 4, .slice A n c] 105)).heap.size∧(v_W3.alloc (.cells #[.slice (some ⟨g_m,0,none⟩) 1 1, .slice A5 2 c5, .slice (some ⟨g_z,0,none⟩) 4 4, .slice A n c] 105)).heap.size<=v_W3.heap.size+1:=by simp
  obtain⟨v_W4,hw⟩:∃v_W4,v_W4=v_W3.alloc (.cells #[.slice (some ⟨g_m,0,none⟩) 1 1, .slice A5 2 c5, .slice (some ⟨g_z,0,none⟩) 4 4, .slice A n c] 105):=⟨_,rfl⟩;rw [<-hw] at hbN hx hz_55 ⊢;clear hw;rw [<-hg] at hx ⊢;have hHeld:=hHeld.trans (hbN.mono hHeld.size);have hfN:Fr (λ _=>False) v_W3 v_W4:=Fr.of_below hbN;have blm_L4:=qH (hfN.row_some blm_L3.out id);clear blm_L3;have S5_L4:=qH (S5_L3.out.fr hfN (λ _ _ _ _ h=>h));clear S5_L3;have blz_L4:=qH (hfN.row_some blz_L3.out id);clear blz_L3;have blg_L4:=qH hx;clear hx;have hz_60:g_g<=v_W3.heap.size∧v_W3.heap.size<=g_g:=by omega
  clear hg hbN;refine hK.out _ _ hHeld λ _=> ?_
  clear hK K hfN
  try simp only [Act.put,sA,sB,sC]
 all_goals
  refine rW 9 (some 17) rfl λ K hK=> ?_
  go_simp;have hgr:Gr v_W4 (some ⟨g_g,0,none⟩) 4 4 [[m],le 2 t.length,List.replicate 4 0,t]:=by
   have hz:=HL.out;rw [hz];refine⟨⟨[.slice (some ⟨g_m,0,none⟩) 1 1, .slice A5 2 c5, .slice (some ⟨g_z,0,none⟩) 4 4, .slice A n c],⟨rfl,Nat.le_refl _,by decide,λ j u hu=>⟨g_g,0,rfl, ?_⟩⟩, ?_⟩,rfl⟩
   ·rw [cell_of_row _ _ _ _ _ _ blg_L4.out,Nat.zero_add]
    simpa using hu
   ·intro i r hi
    rcases i with _|_|_|_|i
    ·simp only [List.getElem?_cons_zero,Option.some.injEq] at hi
     subst hi;refine⟨_,1,rfl,rfl,Nat.le_refl _,by decide,λ j u hu=>⟨g_m,0,rfl, ?_⟩⟩;rw [cell_of_row _ _ _ _ _ _ blm_L4.out,Nat.zero_add]
     simpa [cells,bv] using hu
    ·simp only [List.getElem?_cons_succ,List.getElem?_cons_zero,Option.some.injEq] at hi
     subst hi;rw [jak];exact⟨A5,c5,rfl,S5_L4.out⟩
    ·simp only [List.getElem?_cons_succ,List.getElem?_cons_zero,Option.some.injEq] at hi
     subst hi;refine⟨some ⟨g_z,0,none⟩,4,rfl,rfl,Nat.le_refl _,by decide,λ j u hu=>⟨g_z,0,rfl, ?_⟩⟩;rw [cell_of_row _ _ _ _ _ _ blz_L4.out,Nat.zero_add,<-Array.getElem?_toList,toList_madeCells_one];rw [<-hu];simp [cells,bv]
    ·simp only [List.getElem?_cons_succ,List.getElem?_cons_zero,Option.some.injEq] at hi
     subst hi;exact⟨A,c,by rw [hz];rfl,by rw [hz];exact HS.out.below hHeld (Nat.le_refl _)⟩
    ·simp at hi
  have hfl: [[m],le 2 t.length,List.replicate 4 0,t].flatten.length=7+n:=by simp [jak,HL.out];omega
  have hcc:=jpT (some ⟨g_g,0,none⟩) 4 4 _ v_W4 hgr (by rw [hfl];omega) (by rw [hfl];omega) (by decide);rw [jry] at hcc;clear hgr hfl;refine hcc.mono ?_;clear hcc;rintro e v_W5 ⟨A9,n9,c9,rfl,hs9,hm9,hbN⟩;have S9:=qH hs9;have M9:=qH (hm9.lower hHeld.size);clear hs9 hm9;go_wp2_with fail;have hHeld:=hHeld.trans (hbN.mono hHeld.size);have hfN:Fr (λ _=>False) v_W4 v_W5:=Fr.of_below hbN;have hz_62:=hbN.size;have blm_L5:=qH (hfN.row_some blm_L4.out id);clear blm_L4;have S5_L5:=qH (S5_L4.out.fr hfN (λ _ _ _ _ h=>h));clear S5_L4;have blz_L5:=qH (hfN.row_some blz_L4.out id);clear blz_L4;have blg_L5:=qH (hfN.row_some blg_L4.out id);clear blg_L4;clear hbN;refine hK.out _ _ hHeld λ _=> ?_
  clear hK K hfN
  try simp only [Act.put,sA,sB,sC]
  refine tA 10 (some 7) rfl hHeld ?_
 all_goals
  refine tD ?_;have L9:=qH (show n9=n+7 from by have h1:=S9.out.len;have h2:=HL.out;rw [jaa,List.length_append,List.length_append,jen,List.length_replicate] at h1;omega);have N9:=qH (NT.out.keep hHeld);have B9:=qH hHeld;have DD:=qH (jrz m t s _ rfl);obtain⟨d,hd⟩:∃d,d=hdF m t++List.replicate 4 0++t:=⟨_,rfl⟩;rw [<-hd] at S9 M9 DD;have DL:=qH (show d.length=n9 from by have:=S9.out.len;rw [jaa,Nat.mul_one] at this;exact this);obtain⟨g9,cur,rfl,hge, -⟩:=M9.out (by have:=L9.out;omega);have G9:=qH hge;clear hge;have hcap:=S9.out.cap;have htop:=S9.out.top;unfold maxLen at htop;have h7:7<=n9:=by have:=L9.out;omega
  have q1:(3:Int)<=(n9:Int):=by omega
  have q2:¬(c9:Int)=3:=by omega
  have q3:¬c9=3:=by omega
  go_wp2_with fail;have S9:=qH S9.out.drew;have N9:=qH (N9.out.keep (Below.drew (Below.refl _ _)));have M9:=qH (M9.out.later (Below.drew (Below.refl _ _)));have B9:=qH (B9.out.trans ((Below.drew (Below.refl _ _)).mono B9.out.size));refine wp_region_held_drew (S:=λ w' =>Fr (λ k=>k=g9) v_W5 w') (by kernel_rfl) (Fr.drew (Fr.refl _ _)) (λ hHeld=> ?_);clear hHeld;have hHeld:Fr (λ k=>k=g9) v_W5 v_W5.drew:=Fr.drew (Fr.refl _ _);have hz_0:v_W5.heap.size<=v_W5.drew.heap.size:=Nat.le_refl _;obtain⟨v_W0,hw⟩:∃v_W0,v_W0=v_W5.drew:=⟨_,rfl⟩;rw [<-hw] at hHeld hz_0 S9 N9 M9 B9 ⊢;clear hw;refine tA 0 (some 18) rfl hHeld ?_;refine tA 1 (some 19) rfl hHeld ?_;refine tA 2 (some 20) rfl hHeld ?_;refine tA 3 (some 21) rfl hHeld ?_;refine rW 4 (some 22) rfl λ K hK=> ?_
  go_simp;refine(jeL _ n9 c9 d s v_W0 S9.out h7 N9.out).mono ?_;rintro e w1 ⟨rfl,hb1⟩;have hfN:Fr (λ k=>k=g9) v_W0 w1:=Fr.of_below hb1;have B1:=qH (B9.out.trans (hb1.mono B9.out.size));have M1:=qH (M9.out.later hb1);have y1:=(smP s d).isLt;obtain⟨y,hy⟩:∃y,y=(smP s d).toNat:=⟨_,rfl⟩;rw [<-hy] at y1 DD ⊢;have e3:IntKind.u64.wrap (y:Int)=(y:Int):=by rw [IntKind.wrap_u64];omega
  clear hb1 hy;go_wp2_with fail;have hHeld:=hHeld.trans hfN;have hz_2:=hfN.size;refine hK.out _ _ hHeld λ _=> ?_
  clear hK K hfN
  try simp only [Act.put,sA,sB,sC]
  refine tA 5 (some 23) rfl hHeld ?_
  all_goals
   refine rW 6 (some 24) rfl λ K hK=> ?_
   go_simp;refine(jfH none 0 0 [] 4 y w1 (Sl.nil w1 1 0 (by decide)) (by decide) (by decide) (by decide) (by omega)).mono ?_;rintro e w2 ⟨A5,n5,c5,rfl,hs5,hb5⟩;have hfN:Fr (λ k=>k=g9) w1 w2:=Fr.of_below hb5;rw [List.nil_append] at hs5;have hq5:=hs5.len;rw [jaa,jak] at hq5;obtain rfl:n5=4:=by omega
   have S5:=qH hs5;have B2:=qH (B1.out.trans (hb5.mono B1.out.size));have M2:=qH (M1.out.later hb5);clear hs5 hb5 hq5;go_wp2_with fail;have hHeld:=hHeld.trans hfN;have hz_3:=hfN.size;refine hK.out _ _ hHeld λ _=> ?_
   clear hK K hfN
   try simp only [Act.put,sA,sB,sC]
  all_goals
   refine rW 7 (some 25) rfl λ K hK=> ?_
   go_simp;obtain⟨w3,hcp,hm3,hf3⟩:=jhf (k:=3) (cd:=c9-3) M2.out DL.out S5.out (by decide) (by omega) 3;have hfN:Fr (λ k=>k=g9) w2 w3:=hf3;have M3:=qH hm3;have B3:=qH (B2.out.trans (hf3.below B2.out.size (λ k hk=>by have hk:k=g9:=hk;have:=G9.out;omega)));clear hm3 hf3;go_simp;clear hcp;have hHeld:=hHeld.trans hfN;have hz_4:=hfN.size;refine hK.out _ _ hHeld λ _=> ?_
   clear hK K hfN
   try simp only [Act.put,sA,sB,sC]
  all_goals
   refine tD ?_;go_wp2_with fail;go_ret;have hm:=M3.out;rw [DD.out] at hm;exact⟨_,n9,c9,rfl,hm.sl (by rw [jeo,HL.out,L9.out]) hcap (by unfold maxLen;omega),B3.out,hm⟩
theorem jky (z:Int)(m:UInt8)(hz:z=(m.toNat:Int))(A:Option Addr)(n c:Nat)(t:List UInt8)(s:W32)(w:World)(h:Sl w 1 A n c (cells t))(hn:n<=65535)(hN:Nt w):
  Calls Tryz.prog 134 #[.int .u8 z, .slice A n c, .int .u32 (s.toNat:Int)] w (jcw w.heap.size w (pcF m t s)):=by
 subst hz;exact jn7 m A n c t s w h hn hN
end
section
open Go.RowKit Go.Proofs
set_option maxRecDepth 20000
set_option maxHeartbeats 3200000
theorem Sl.sub17 {w:World}{n c:Nat}{A:Option Addr}{l:List UInt8}(h:Sl w 1 A n c (cells l))(lo hi:Nat)(h1:lo<=hi)(h2:hi<=n):Sl w 1 (if c=lo then A else A.map λ x=>x.add lo) (hi-lo) (c-lo) (cells ((l.drop lo).take (hi-lo))):=by
 have hc:=h.cap;have ht:=h.top
 split
 ·obtain rfl:hi=lo:=by omega
  rw [Nat.sub_self,List.take_zero];exact⟨rfl,by omega,by omega,λ j u hu=>by simp [cells] at hu⟩
 ·exact h.sub1 lo hi (c-lo) h1 h2 (by omega) (by omega)
theorem jn8 {l:List UInt8}{n i long:Nat}(hl:l.length=n):(l.drop (i*long)).take (min ((i+1)*long) n-i*long)=(l.drop (i*long)).take long:=by
 have e:(i+1)*long=i*long+long:=by rw [Nat.add_mul,Nat.one_mul]
 rw [e]
 rcases Nat.le_total (i*long+long) n with h|h
 ·rw [Nat.min_eq_left h,Nat.add_sub_cancel_left]
 ·rw [Nat.min_eq_right h,List.take_of_length_le (by rw [List.length_drop];omega),List.take_of_length_le (by rw [List.length_drop];omega)]
theorem EncS.put17 {w0 w1 w2:World}{g m:Nat}{cur:Array Value}{ps:List (List UInt8)}(h:EncS w0 g m cur ps w1)(hb:Below w1.heap.size w1 w2){k:Nat}(hk:ps.length=k)(hkm:k<m){A:Option Addr}{c:Nat}{r:List UInt8}
  (hs:Sl w2 1 A r.length c (cells r))(hm:Mine w2 w1.heap.size 5 A r.length (cells r)):
  EncS w0 g m (cur.setIfInBounds k (.slice A r.length c)) (ps ++ [r]) (w2.setCell ⟨g,k,none⟩ (.slice A r.length c))∧Sl (w2.setCell ⟨g,k,none⟩ (.slice A r.length c)) 1 A r.length c (cells r):=by
 have h2:=h.later hb;have hg1:=block_lt h.fil.row;have hf:Fr (λ k=>k=g) w2 (w2.setCell ⟨g,k,none⟩ (.slice A r.length c)):=Fr.setCell (S:=λ k=>k=g) (Fr.refl _ _) (.inr rfl) _;have hA:∀b o,0<r.length->A=some ⟨b,o,none⟩->b≠g:=λ b o hn e=>by
  obtain⟨g',cur',e',hB,_⟩:=hm hn;rw [e] at e';injection e' with e'
  injection e' with e' _
  omega
 exact⟨h2.store hk hkm hf (heap_setCell_same w2 g k _ _ _ h2.fil.row) hs hA (h.sep.later hb) (by omega) hb.size hm,hs.fr hf λ b o hn e hk=>hA b o hn e hk⟩
theorem or2_mk (a:Bool):bits .or .u8 ((mkF a false).toNat:Int) 2=((mkF a true).toNat:Int):=by cases a<;>decide
theorem jlJ (A:Option Addr)(c:Nat)(room:Int)(long:Nat)(hr:room=(long:Int)+7)(h1:1<=long)(h2:long<=65528)(w:World)(hc:c<=maxLen)(hN:Nt w):
  Calls Tryz.prog 87 #[.slice A 0 c, .int .i64 room] w λ e w' =>∃g k,e= .returned (.tuple #[.slice (some ⟨g,0,none⟩) k k, .int .i64 0])∧Gm w' w.heap.size (some ⟨g,0,none⟩) k k (cutF long [])∧Below w.heap.size w w' ∧w.heap.size<=g:=by
 have NN:=qH hN;have HCC:=qH hc;have hmk1:=λ W=>jbE 1 1 rfl (by decide) W
 have r1:¬room<8:=by omega
 have r2:¬65535<room:=by omega
 have e0:room-7=(long:Int):=by omega
 have e1:¬(long:Int)=0:=by omega
 have e2:¬(long:Int)<0:=by omega
 clear hN hc hr;have hz:(0:Int) / (long:Int)=0:=by simp
 by_cases hc0:c=0
 all_goals
  try subst hc0
  try have hc1:¬(c:Int)=0:=by omega
  go_enter Tryz.func87,Tryz.ntmps87;go_wp2_with fail;obtain⟨wm,hwm⟩:∃x,x=w.alloc (.cells (madeCells #[.slice none 0 0] 1) 105):=⟨_,rfl⟩;obtain⟨g,hg⟩:∃g,g=w.heap.size:=⟨_,rfl⟩;have hen:EncS w g 1 (madeCells #[.slice none 0 0] 1) [] wm:=by
   rw [hwm,hg];exact⟨⟨(Below.refl _ _).alloc (Nat.le_refl _) _,Fil.made w 1,Nat.le_refl _⟩,Sep.nil _ _ _ _⟩
  rw [<-hwm,<-hg];have EN:=qH hen;clear hen hwm hg;go_loopw [8,29] (λ sv iv wr=>∃(i:Nat) (s:W32) (cur:Array Value) (ps:List (List UInt8)),sv= .int .u32 (s.toNat:Int)∧iv= .int .i64 (i:Int)∧(i=0∧ps= []∧s=0∨i=1∧ps= [pcF (mkF true true) [] 0])∧EncS w g 1 cur ps wr) (λ _ iv _=>1-(intOf iv).toNat)
  case atStart=>exact⟨0,0,_, [],rfl,rfl, .inl ⟨rfl,rfl,rfl⟩,EN.out⟩
  case round=>
   obtain⟨i,s,cur,ps,hov,hlv,hi,hen⟩:=hrel;subst hov hlv;have ENR:=qH hen;clear EN hen
   rcases hi with ⟨hi,hps,hs0⟩|⟨hi,hps⟩
   ·subst hi hps hs0
    go_wp2_with fail;refine(jky _ (mkF true true) (by decide) _ 0 _ [] 0 wr (Sl.empty _ _ _ _ (by have:=HCC.out;omega)) (by decide) (NN.out.keep ENR.out.bel)).mono ?_;rintro e w1 ⟨A5,n5,c5,rfl,hs5,hb5,hm5⟩;obtain⟨r,hr⟩:∃r,r=pcF (mkF true true) [] 0:=⟨_,rfl⟩;have hr7:7<=r.length:=by rw [hr,jeo];omega
    rw [<-hr] at hs5 hm5;obtain rfl:n5=r.length:=by have:=hs5.len;rw [jaa] at this;omega
    have hput:=ENR.out.put17 hb5 (k:=0) rfl (by decide) hs5 hm5;have htd:=jd4 A5 r.length c5 r _ hput.2 hr7;have hen2:=ENR.out.later hb5;obtain⟨v0,hv0⟩:=hen2.fil.has (i:=0) (by decide);have hf0:=hen2.fil.free 0;have hc2:=cell_of_row _ _ 0 _ _ _ hput.1.fil.row;rw [Array.getElem?_setIfInBounds,if_pos rfl,if_pos (by rw [ENR.out.fil.size];decide)] at hc2;have HP:=qH hput;have HR:=qH hr;clear hs5 hm5 hb5 hput hen2 hr;go_wp2_with fail;refine htd.mono ?_;clear htd;rintro e w2 ⟨rfl,hw2⟩;obtain rfl:=hw2;go_wp2_with fail;go_roundw
    case rel=>exact⟨1,_,_,_,rfl,by go_num, .inr ⟨rfl,by rw [HR.out];rfl⟩,HP.out.1⟩
    case measure=>simp [intOf]
   ·subst hi
    go_wp2_with fail;go_ret2;refine⟨g,1,rfl, ?_,ENR.out.bel,ENR.out.enc.new⟩;have e:cutF long []=ps:=by rw [hps,cutF];simp [jbT,jbd]
    rw [e];exact ENR.out.gm (by rw [hps];rfl) (by decide)
theorem jlK (A:Option Addr)(n c:Nat)(l:List UInt8)(room:Int)(long:Nat)(hr:room=(long:Int)+7)(h1:1<=long)(h2:long<=65528)(w:World)(h:Sl w 1 A n c (cells l))(hn:n<=100000)(hn0:0<n)(hN:Nt w):
  Calls Tryz.prog 87 #[.slice A n c, .int .i64 room] w λ e w' =>∃g k,e= .returned (.tuple #[.slice (some ⟨g,0,none⟩) k k, .int .i64 0])∧Gm w' w.heap.size (some ⟨g,0,none⟩) k k (cutF long l)∧Below w.heap.size w w' ∧w.heap.size<=g:=by
 have hl:=h.len;rw [jaa,Nat.mul_one] at hl;obtain⟨k,hk⟩:∃k,k=jbT long n:=⟨_,rfl⟩;have HKM:=qH hk;have hkn:k<=n+1:=by rw [hk];unfold jbT;have:=Nat.div_le_self (n-1) long;omega
 have hk0:0<k:=by rw [hk];exact jc6 _ _
 have hkl:k*long<=200000:=by
  rw [hk];unfold jbT;rw [Nat.add_mul,Nat.one_mul];have:=Nat.div_mul_le_self (n-1) long;omega
 have hst:=CutAt.start long k l (by rw [hl,hk];exact jhe (by omega));have hmk:=λ W=>jbE (k:Int) k rfl (by omega) W
 have HC:=qH (show cutF long l=jbd long k true 0 l from by rw [cutF,hl,hk]);have hq:((n-1:Nat):Int).tdiv (long:Int)+1=(k:Int):=by
  rw [hk,jbT];rw [Int.tdiv_eq_ediv_of_nonneg (by omega)]
  rfl
 have hdv:((n-1:Nat):Int) / (long:Int)+1=(k:Int):=by
  rw [hk,jbT]
  rfl
 obtain⟨m,hm⟩:∃m,m=n-1:=⟨_,rfl⟩;rw [<-hm] at hq hdv;have HH:=qH h;have NN:=qH hN;have HL:=qH hl;have ST:=qH hst;have HK:=qH hkl;have r1:¬room<8:=by omega
 have r2:¬65535<room:=by omega
 have e0:room-7=(long:Int):=by omega
 have e1:¬(long:Int)=0:=by omega
 have hm0:(n:Int)-1=(m:Int):=by omega
 have HKN:=qH hkn;clear h hN hl hst hk hr hm hkl;go_enter Tryz.func87,Tryz.ntmps87;go_upto_region 4 with (fail)
 obtain⟨wm,hwm⟩:∃x,x=w.alloc (.cells (madeCells #[.slice none 0 0] k) 105):=⟨_,rfl⟩;obtain⟨g,hg⟩:∃g,g=w.heap.size:=⟨_,rfl⟩;go_cut [7] (λ v wx=>v= .slice (some ⟨g,0,none⟩) k k∧wx=wm)
 case first=>
  subst hwm hg;go_wp2_with fail
  all_goals
   go_meet;exact⟨rfl,rfl⟩
 case rest=>
  obtain⟨rfl,hwc⟩:=hcut;obtain rfl:wm=_:=hwc.symm;have hen:EncS w g k (madeCells #[.slice none 0 0] k) [] wm:=by
   rw [hwm,hg];exact⟨⟨(Below.refl _ _).alloc (Nat.le_refl _) _,Fil.made w k,Nat.le_refl _⟩,Sep.nil _ _ _ _⟩
  have EN:=qH hen;clear hen hwm hg hmk hq hdv;go_wp2_with fail;go_loopg [8,29] k (λ gk sv iv wr=>∃(i:Nat) (s:W32) (cur:Array Value) (ps:List (List UInt8)),sv= .int .u32 (s.toNat:Int)∧iv= .int .i64 (i:Int)∧i<=k∧k-i<=gk∧EncS w g k cur ps wr∧CutAt long k l i s ps)
  case atStart=>exact⟨0,0,_, [],rfl,rfl,by omega,by omega,EN.out,ST.out⟩
  case round=>
   obtain⟨G,hG⟩:∃x,x=gk:=⟨_,rfl⟩;subst hG;obtain⟨i,s,cur,ps,hov,hlv,hi,hgk,hen,hst⟩:=hrel;subst hov hlv;have ENR:=qH hen;have STR:=qH hst;clear EN ST hen hst
   by_cases hlt:i<k
   ·go_upto_if 33 with (fail)
    go_cut [10] (λ v wx=>v= .int .u8 ((mkF (decide (i=0)) false).toNat:Int)∧wx=wr)
    case first=>
     by_cases hi0:i=0
     ·subst hi0
      go_wp2_with fail;go_meet;exact⟨rfl,rfl⟩
     ·go_wp2_with fail
      go_meet;rw [decide_eq_false hi0];exact⟨rfl,rfl⟩
    case rest=>
     obtain⟨h10,hwc⟩:=hcut;obtain rfl:wr=_:=hwc.symm;subst h10;go_upto_if 40 with (fail)
     go_cut [10] (λ v wx=>v= .int .u8 ((mkF (decide (i=0)) (decide (i+1=k))).toNat:Int)∧wx=wr)
     case first=>
      have hor:=or2_mk (decide (i=0));obtain⟨ai,hai⟩:∃x,x=decide (i=0):=⟨_,rfl⟩;rw [<-hai] at hor ⊢;have hai:=qH hai
      by_cases hik:i+1=k
      ·have q1:((i:Int)==(k:Int)-1)=true:=by rw [beq_iff_eq];omega
       go_wp2_with fail;go_meet;rw [decide_eq_true hik,<-hai.out];exact⟨congrArg _ hor,rfl⟩
      ·have q1:((i:Int)==(k:Int)-1)=false:=by rw [beq_eq_false_iff_ne];omega
       go_wp2_with fail;go_meet;rw [decide_eq_false hik,<-hai.out];exact⟨rfl,rfl⟩
     case rest=>
      obtain⟨h10,hwc⟩:=hcut;obtain rfl:wr=_:=hwc.symm;subst h10;have hnx:=STR.out.next hlt;have hkl:=HK.out;have hik2:(i+1)*long<=k*long:=Nat.mul_le_mul_right _ hlt;have hin:i*long<n:=by
       rcases Nat.eq_zero_or_pos i with h' |h'
       ·subst h';simpa using hn0
       ·have:=jkx (long:=long) (n:=n) (i:=i-1) (by omega) (by rw [<-HKM.out];omega)
        rwa [show i-1+1=i from by omega] at this
      have hq12:(i+1)*long=i*long+long:=by rw [Nat.add_mul,Nat.one_mul]
      have ht:=jn8 (i:=i) (long:=long) HL.out;have f1:(i:Int)*(long:Int)=((i*long:Nat):Int):=by simp
      have f2:((i:Int)+1)*(long:Int)=(((i+1)*long:Nat):Int):=by simp
      obtain⟨q1,hq1⟩:∃q,q=i*long:=⟨_,rfl⟩;obtain⟨q2,hq2⟩:∃q,q=(i+1)*long:=⟨_,rfl⟩;rw [<-hq1] at hin hq12 ht f1;rw [<-hq2] at hik2 hq12 ht f2;rw [<-hq1] at hnx;obtain⟨hi2,hhi2⟩:∃x,x=min q2 n:=⟨_,rfl⟩;have hh1:q1<=hi2:=by omega
      have hh2:hi2<=n:=by omega
      have hh3:hi2-q1<=65528:=by omega
      have hsl:=(HH.out.below ENR.out.bel (Nat.le_refl _)).sub17 q1 hi2 hh1 hh2;have hcap:=HH.out.cap;have hcq:¬c=q1:=by omega
      rw [if_neg hcq] at hsl;rw [<-hhi2] at ht;rw [ht] at hsl;have hcz:¬(c:Int)=(q1:Int):=by omega
      have HHL:=qH (show hi2=q2∧q2<=n∨hi2=n∧n<q2 from by omega);have hb2:q2<=200000:=by omega
      have hb1:q1<=200000:=by omega
      have SL:=qH hsl;have NX:=qH hnx;have HHI:=qH hh3;obtain⟨z,hz⟩:∃z,z=((mkF (decide (i=0)) (decide (i+1=k))).toNat:Int):=⟨_,rfl⟩;have hpc:=λ A' c' W (hs':Sl W 1 A' (hi2-q1) c' (cells ((l.drop q1).take long))) (hN':Nt W)=>jky z _ hz A' (hi2-q1) c' ((l.drop q1).take long) s W hs' (Nat.le_trans hh3 (by decide)) hN'
      rw [<-hz];have PC:=qH hpc;clear hsl hnx hkl hik2 hq12 ht hq1 hq2 hhi2 hh3 hz hpc
      rcases HHL.out with ⟨hv,hv2⟩|⟨hv,hv2⟩
      all_goals
       subst hv;go_wp2_with fail;refine(PC.out _ _ wr SL.out (NN.out.keep ENR.out.bel)).mono ?_;rintro e w1 ⟨A5,n5,c5,rfl,hs5,hb5,hm5⟩;obtain⟨r,hr⟩:∃r,r=pcF (mkF (decide (i=0)) (decide (i+1=k))) ((l.drop q1).take long) s:=⟨_,rfl⟩;have hr7:7<=r.length:=by rw [hr,jeo];omega
       have hrs:tdF r=smF (mkF (decide (i=0)) (decide (i+1=k))) ((l.drop q1).take long) s:=by rw [hr,jkv]
       have NXR:=NX.out;rw [<-hr,<-hrs] at NXR;rw [<-hr] at hs5 hm5;obtain rfl:n5=r.length:=by have:=hs5.len;rw [jaa] at this;omega
       have hput:=ENR.out.put17 hb5 STR.out.len hlt hs5 hm5;have htd:=jd4 A5 r.length c5 r _ hput.2 hr7;have hen2:=ENR.out.later hb5;obtain⟨v0,hv0⟩:=hen2.fil.has hlt;have hf0:=hen2.fil.free i;have hc2:=cell_of_row _ _ i _ _ _ hput.1.fil.row;rw [Array.getElem?_setIfInBounds,if_pos rfl,if_pos (by rw [ENR.out.fil.size];exact hlt)] at hc2;have HP:=qH hput;have NXH:=qH NXR;clear hs5 hm5 hb5 hput hen2 hr hrs NXR f1 f2 hb1 hb2 hin hh1 hh2;go_wp2_with fail;refine htd.mono ?_;clear htd;rintro e w2 ⟨rfl,hw2⟩;obtain rfl:=hw2;go_wp2_with fail;go_roundg (G-1)
       case measure=>omega
       case rel=>exact⟨i+1,_,_,_,rfl,by go_num,by omega,by omega,HP.out.1,NXH.out⟩
   ·obtain rfl:k=i:=by omega
    go_wp2_with fail;go_ret2;have hdn:=STR.out.done;refine⟨g,k,rfl, ?_,ENR.out.bel,ENR.out.enc.new⟩;rw [HC.out,<-hdn];exact ENR.out.gm STR.out.len (by unfold maxLen;omega)
theorem jn9 (A:Option Addr)(n c:Nat)(l:List UInt8)(room:Int)(long:Nat)(hr:room=(long:Int)+7)(h1:1<=long)(h2:long<=65528)(w:World)(h:Sl w 1 A n c (cells l))(hn:n<=100000)(hN:Nt w):
  Calls Tryz.prog 87 #[.slice A n c, .int .i64 room] w λ e w' =>∃g k,e= .returned (.tuple #[.slice (some ⟨g,0,none⟩) k k, .int .i64 0])∧Gm w' w.heap.size (some ⟨g,0,none⟩) k k (cutF long l)∧Below w.heap.size w w' ∧w.heap.size<=g:=by
 rcases Nat.eq_zero_or_pos n with h0|h0
 ·subst h0
  have hl:=h.len;rw [jaa] at hl;obtain rfl:l= []:=List.eq_nil_of_length_eq_zero (by omega);exact jlJ A c room long hr h1 h2 w h.top hN
 ·exact jlK A n c l room long hr h1 h2 w h hn h0 hN
end
section
open Go.RowKit Go.Proofs
set_option maxRecDepth 20000
set_option maxHeartbeats 3200000
structure Gro (w:World)(B:Nat)(A:Option Addr)(n c:Nat)(l:List UInt8):Prop where
 sl:Sl w 1 A n c (cells l)
 own:(n=0∧c=0)∨w.ownsRow B 5 1 (.slice A n c) n (cells l)
theorem Gro.nil (w:World)(B:Nat):Gro w B none 0 0 []:=⟨Sl.nil w 1 0 (by decide), .inl ⟨rfl,rfl⟩⟩
theorem Gro.later {w w':World}{B n c:Nat}{A:Option Addr}{l:List UInt8}(h:Gro w B A n c l)(hb:Below w.heap.size w w'):Gro w' B A n c l:=⟨h.sl.below hb (Nat.le_refl _),h.own.imp id λ k=>ownsRow_below k hb⟩
theorem Gro.low {w:World}{B n c:Nat}{A:Option Addr}{l:List UInt8}(h:Gro w B A n c l):∀b o,0<n->A=some ⟨b,o,none⟩->B<=b:=λ b o hn e=>by
 rcases h.own with ⟨h2,_⟩|h2
 ·omega
 ·obtain⟨g,cur,e',hB,_⟩:=Mine.of_own h2 hn
  rw [e] at e';injection e' with e'
  injection e' with e' _
  omega
theorem Gro.append {w:World}{B n c m:Nat}{A A2:Option Addr}{c2:Nat}{l ys:List UInt8}(h:Gro w B A n c l)(hB:B<=w.heap.size)(hs:Sl w 1 A2 m c2 (cells ys))(h47:n+m<=140737488355328)(ty:TypeId):
  ∃A' c' w',(Builtin.append_ #[105,105] ty #[.slice A n c, .slice A2 m c2]).run Tryz.prog w= .ok (.slice A' (n+m) c') w' ∧Gro w' B A' (n+m) c' (l++ys)∧Below B w w':=by
 obtain⟨i0,hi,hz0,hz1,hz2⟩:=info_parts jbf
 by_cases hm:m=0
 ·subst hm
  have hy:ys= []:=List.eq_nil_of_length_eq_zero (by have:=hs.len;rw [jaa] at this;omega);subst hy;have hsr:=hs.src (P:=Tryz.prog) Tryz.underlying105 (by decide) (cells_one []);exact⟨A,c,w,run_append_nothing w 105 105 ty 5 i0 Tryz.underlying105 hi A n c h.sl.cap _ (by rw [hz1];exact hsr),by rw [List.append_nil];exact h,Below.refl _ _⟩
 ·have ho:Own w B 5 1 A n c (cells l):=⟨h.sl,h.own.imp (λ k=>by omega) id⟩
  obtain⟨A',c',w',hr,h2,h3,h4⟩:=jaK (P:=Tryz.prog) 105 105 ty i0 (.int .u8 0) 1 Tryz.underlying105 hi hz0 hz1 hz2 rfl (by decide) ho hB (.slice A2 m c2) m (cells ys) (hs.src Tryz.underlying105 (by decide) (cells_one ys)) (by unfold maxLen;omega) (by omega);rw [<-jai] at h2 h4;exact⟨A',c',w',hr,⟨h2.sl, .inr (h4 (by omega))⟩,h3⟩
theorem jd5 {w:World}{B n c:Nat}{A:Option Addr}{l:List UInt8}{o:Oper}{a:Act}{K:Act->World->Prop}{Q:Exit->Act->World->Prop}(s x:Operand)
  (ho:o.op= .call {callee:= .builtin .append,args:= #[s,x],argTypes:= #[105,105]})
  (hv:a.eval s= .slice A n c)(h:Gro w B A n c l)(hB:B<=w.heap.size)(A2:Option Addr)(m c2:Nat)(ys:List UInt8)(hx:a.eval x= .slice A2 m c2)(hs:Sl w 1 A2 m c2 (cells ys))(h47:n+m<=140737488355328)
  (hk:∀A' c' w',Gro w' B A' (n+m) c' (l++ys)->Below B w w' ->K (a.put o.dst (.slice A' (n+m) c')) w'):o.wp Tryz.prog a w K Q:=by
 obtain⟨A',c',w',hr,h2,h3⟩:=h.append hB hs h47 o.type;unfold Oper.wp execOp;simp only [ho,resolve,invoke,builtin,Sem.run_bind,Sem.run_pure,Result.andThen_ok,List.map_toArray,List.map_cons,List.map_nil,hv,hx,hr];exact hk A' c' w' h2 h3
theorem joa (b a:Bool)(hb:b=a)(A:Option Addr)(n c:Nat)(l:List UInt8)(w:World)(h:Sl w 1 A n c (cells l)):
  Calls Tryz.prog 157 #[.slice A n c, .bool b] w λ e w' =>e= .returned (.bool (fmB l a))∧w=w':=by
 subst hb;exact jlI A n c l b w h
theorem jlL {rs:List (List UInt8)}{i:Nat}{r:List UInt8}(h:rs[i]? =some r):(rs.take (i+1)).flatten.length=(rs.take i).flatten.length+r.length:=by rw [jbo h,List.length_append]
theorem drop_at {rs:List (List UInt8)}{i:Nat}{r:List UInt8}(h:rs[i]? =some r):rs.drop i=r::rs.drop (i+1):=by
 obtain⟨hi,he⟩:=List.getElem?_eq_some_iff.1 h;rw [List.drop_eq_getElem_cons hi,he]
def jrB (w:World)(x:List UInt8 × Nat × Nat)(e:Ending)(w':World):Prop:=
 ∃A c,e= .returned (.tuple #[.slice A x.1.length c, .int .i64 (x.2.1:Int), .int .i64 (x.2.2:Int)])∧Sl w' 1 A x.1.length c (cells x.1)∧Below w.heap.size w w' ∧∀b o,0<x.1.length->A=some ⟨b,o,none⟩->w.heap.size<=b
theorem jgA (A:Option Addr)(n c:Nat)(rs:List (List UInt8))(w:World)(h:Gr w A n c rs)(hb:rs.flatten.length<=1000000)(hn:n<=1000000)(hN:Nt w):
  Calls Tryz.prog 114 #[.slice A n c] w (jrB w (jaZ rs)):=by
 have HH:=qH h;have NN:=qH hN;have HB:=qH hb;clear h hN hb;go_enter Tryz.func114,Tryz.ntmps114;go_wp2_with fail;go_step3;go_wp2_with fail;go_step3;go_wp2_with fail;go_loopg [5,6,7,12] n (λ gk tv sv fv iv wr=>∃(i:Nat) (s:W32) (acc:List UInt8) (A5:Option Addr) (c5:Nat),tv= .slice A5 acc.length c5∧sv= .int .u32 (s.toNat:Int)∧fv= .int .i64 170∧iv= .int .i64 (i:Int)∧i<=n∧n-i<=gk∧Gro wr w.heap.size A5 acc.length c5 acc∧Below w.heap.size w wr∧joinL s (decide (i=0)) acc i (rs.drop i)=jaZ rs∧acc.length<=(rs.take i).flatten.length)
 case atStart=>exact⟨0,0, [],none,0,rfl,rfl,rfl,rfl,by omega,by omega,Gro.nil _ _,Below.refl _ _,rfl,by simp⟩
 case round=>
  obtain⟨G,hG⟩:∃x,x=gk:=⟨_,rfl⟩;subst hG;obtain⟨i,s,acc,A5,c5,htv,hsv,hfv,hiv,hi,hgk,hgr,hbe,hj,hac⟩:=hrel;subst htv hsv hfv hiv;have GR:=qH hgr;have BE:=qH hbe;clear hgr hbe
  by_cases hlt:i<n
  ·have hii:(i:Int)<(n:Int):=by omega
   obtain⟨b,o,rfl,hcc⟩:=HH.out.at_ (by omega);have hget:=HH.out.get hlt;obtain⟨p,hp⟩:∃r,r=rs.getD i []:=⟨_,rfl⟩;rw [<-hp] at hget;obtain⟨A1,c1,hc1,hs1⟩:=hcc i p hget;have S0:=qH hs1;have hs1:=hs1.below BE.out (Nat.le_refl _);have hc1:=(BE.out.cell (World.block_lt_of_cell? w _ hc1)).trans hc1;rw [drop_at hget,joinL] at hj;have hfl:=jlL hget;have hft:=ja7 rs (i+1);have hacp:acc.length+p.length<=1000000:=by have:=HB.out;omega
   have HAC:=qH (show acc.length+p.length<=(rs.take (i+1)).flatten.length from by omega);obtain⟨a0,ha0⟩:∃x,x=decide (i=0):=⟨_,rfl⟩;have ha1:((i:Int)==0)=a0:=by
    rw [ha0]
    by_cases hz:i=0
    ·subst hz;rfl
    ·rw [decide_eq_false hz,beq_eq_false_iff_ne];omega
   have hfo:=joa ((i:Int)==0) a0 ha1 A1 p.length c1 p wr hs1;rw [<-ha0] at hj;have S1:=qH hs1;clear hget hp hfl hft hcc hs1 hac ha0 ha1
   by_cases hfm:fmB p a0=true
   ·rw [hfm] at hfo
    rw [hfm,if_neg (by decide)] at hj;have h7:7<=p.length:=by
     unfold fmB at hfm;rw [Bool.and_eq_true] at hfm;exact of_decide_eq_true hfm.1
    have htd:=jd4 A1 p.length c1 p wr S1.out h7;have hsm:=jeL A1 p.length c1 p s wr S1.out h7 (NN.out.keep BE.out);obtain⟨td,htd0⟩:∃x,x=tdF p:=⟨_,rfl⟩;obtain⟨sm,hsm0⟩:∃x,x=smP s p:=⟨_,rfl⟩;rw [<-htd0] at htd;rw [<-hsm0] at hsm;rw [<-htd0,<-hsm0] at hj;have TD0:=qH htd0;have HJ:=qH hj;clear hj hfm htd0 hsm0;go_wp2_with fail;refine hfo.mono ?_;clear hfo;rintro e w1 ⟨rfl,hw1⟩;obtain rfl:=hw1;go_wp2_with fail;refine htd.mono ?_;clear htd;rintro e w1 ⟨rfl,hw1⟩;obtain rfl:=hw1;go_wp2_with fail;refine hsm.mono ?_;clear hsm;rintro e w1 ⟨rfl,hb1⟩;have B1:=qH (BE.out.trans (hb1.mono BE.out.size));have GR1:=qH (GR.out.later hb1);have S1':=qH (S1.out.below hb1 (Nat.le_refl _));clear hb1 hc1
    by_cases hts:td=sm
    ·have HJ1:=HJ.out
     rw [if_neg (λ hh=>hh hts)] at HJ1;have qt:((td.toNat:Int) !=(sm.toNat:Int))=false:=by rw [hts];simp
     have HJ:=qH HJ1;clear HJ1;have hsl:=S1'.out.sub17 7 p.length h7 (Nat.le_refl _);rw [List.take_of_length_le (by rw [List.length_drop];exact Nat.le_refl _)] at hsl;have q7:(7:Int)<=(p.length:Int):=by omega
     have hz1:=B1.out.size;have hcell:∃u:UInt8,p[0]? =some u:=⟨p[0],List.getElem?_eq_getElem (by omega)⟩;obtain⟨u,hu⟩:=hcell;obtain⟨b7,o7,hA7,hc7⟩:=S0.out.at_ (k:=0) (by omega);have hc70:w.cell? ⟨b7,o7,none⟩=some (.int .u8 (u.toNat:Int)):=by
      have:=hc7 0 (bv u) (by simp [cells,hu])
      rwa [Nat.add_zero] at this
     have C70:=qH hc70;have HA7:=qH hA7;have LSB:=qH (show lsB p=decide (u &&& 2≠0) from by rw [lsB,List.getD_eq_getElem?_getD,hu,Option.getD_some]);clear hc70 hc7 hA7 hu hts
     by_cases hc17:c1=7
     ·subst hc17
      rw [if_pos rfl] at hsl;have SL:=qH hsl;clear hsl;go_wp2_with fail;refine wp_region_held_drew (S:=λ w' =>Fr (λ k=>w.heap.size<=k) w1.drew w') (by kernel_rfl) (Fr.refl _ _) (λ hHeld=> ?_);clear hHeld;refine tA 0 (some 30) rfl (Fr.refl _ _) ?_;refine tA 2 (some 32) rfl (Fr.refl _ _) ?_;refine tA 3 (some 33) rfl (Fr.refl _ _) ?_;refine tA 4 (some 34) rfl (Fr.refl _ _) ?_;refine rW 1 (some 31) rfl λ K hK=> ?_
      go_simp;refine(jd4 _ _ _ p w1.drew S1'.out.drew h7).mono ?_;rintro e wt ⟨rfl,hwt⟩;obtain rfl:w1.drew=_:=hwt;have hfr:Fr (λ k=>w.heap.size<=k) w1.drew w1.drew:=Fr.refl _ _;go_wp2_with fail;refine hK.out _ _ hfr (λ hHeld=> ?_);clear hK K hHeld
      try simp only [Act.put,sA,sB,sC]
      refine jac (S':=λ w' =>Fr (λ k=>w.heap.size<=k) w1.drew w') (λ w' h=>hfr.trans h) ?_;clear hfr;refine rW 5 (some 35) rfl λ K hK=> ?_
      refine jd5 (B:=w.heap.size) (.tmp 32) (.tmp 34) rfl rfl (GR1.out.later (Below.drew (Below.refl _ _))) hz1 _ _ _ (p.drop 7) rfl SL.out.drew (by omega) ?_;intro A6 c6 w2 hg6 hb6;have hfr:Fr (λ k=>w.heap.size<=k) w1.drew w2:=Fr.of_belowAt hb6 (λ k hk=>hk);refine hK.out _ _ hfr (λ hHeld=> ?_);clear hK K hHeld
      try simp only [Act.put,sA,sB,sC]
      refine jac (S':=λ w' =>Fr (λ k=>w.heap.size<=k) w2 w') (λ w' h=>hfr.trans h) ?_;clear hfr;refine tA 6 (some 6) rfl (Fr.refl _ _) ?_;refine tA 7 (some 5) rfl (Fr.refl _ _) ?_;refine tD ?_;have G6:=qH hg6;have B6:=qH (B1.out.trans ((Below.drew (Below.refl _ _)).trans hb6));have hc71:=(B6.out.cell (World.block_lt_of_cell? w _ C70.out)).trans C70.out;have hA:=HA7.out;subst hA;have HLE:=qH (show (acc++p.drop 7).length=acc.length +(p.length-7) from by rw [List.length_append,List.length_drop]);have hfin:=HJ.out;rw [TD0.out] at hfin;have hand:=jqo u;have hls:=LSB.out;obtain⟨v,hv⟩:∃v,v=u &&& 2:=⟨_,rfl⟩;rw [<-hv] at hand hls;clear hg6 hb6 hv
      by_cases hl:v=0
      ·rw [decide_eq_false (λ hh=>hh hl)] at hls
       rw [hls,if_neg (by decide)] at hfin;rw [hl] at hand;have FIN:=qH hfin;clear hfin hls hl;go_wp2_with fail;go_roundg (G-1)
       case measure=>omega
       case rel=>
        refine⟨i+1,tdF p,acc++p.drop 7,A6,c6,by rw [HLE.out],rfl,rfl,by go_num,by omega,by omega,by rw [HLE.out];exact G6.out,B6.out, ?_, ?_⟩
        ·rw [decide_eq_false (by omega)]
         exact FIN.out
        ·have h1:=HAC.out
         rw [HLE.out];omega
      ·rw [decide_eq_true hl] at hls
       rw [hls,if_pos rfl] at hfin;have hv0:¬(v.toNat:Int)=0:=by
        intro hh;exact hl (UInt8.toNat_inj.1 (by show v.toNat=0;omega))
       have FIN:=qH hfin;clear hfin hls hl;go_wp2_with fail;go_ret3;rw [<-FIN.out];have hg:=G6.out;rw [<-HLE.out] at hg;exact⟨A6,c6,by rw [HLE.out];rfl,hg.sl,B6.out,hg.low⟩
     ·rw [if_neg hc17] at hsl
      have hc18:¬(c1:Int)=7:=by omega
      have SL:=qH hsl;clear hsl;go_wp2_with fail;refine wp_region_held_drew (S:=λ w' =>Fr (λ k=>w.heap.size<=k) w1.drew w') (by kernel_rfl) (Fr.refl _ _) (λ hHeld=> ?_);clear hHeld;refine tA 0 (some 30) rfl (Fr.refl _ _) ?_;refine tA 2 (some 32) rfl (Fr.refl _ _) ?_;refine tA 3 (some 33) rfl (Fr.refl _ _) ?_;refine tA 4 (some 34) rfl (Fr.refl _ _) ?_;refine rW 1 (some 31) rfl λ K hK=> ?_
      go_simp;refine(jd4 _ _ _ p w1.drew S1'.out.drew h7).mono ?_;rintro e wt ⟨rfl,hwt⟩;obtain rfl:w1.drew=_:=hwt;have hfr:Fr (λ k=>w.heap.size<=k) w1.drew w1.drew:=Fr.refl _ _;go_wp2_with fail;refine hK.out _ _ hfr (λ hHeld=> ?_);clear hK K hHeld
      try simp only [Act.put,sA,sB,sC]
      refine jac (S':=λ w' =>Fr (λ k=>w.heap.size<=k) w1.drew w') (λ w' h=>hfr.trans h) ?_;clear hfr;refine rW 5 (some 35) rfl λ K hK=> ?_
      refine jd5 (B:=w.heap.size) (.tmp 32) (.tmp 34) rfl rfl (GR1.out.later (Below.drew (Below.refl _ _))) hz1 _ _ _ (p.drop 7) rfl SL.out.drew (by omega) ?_;intro A6 c6 w2 hg6 hb6;have hfr:Fr (λ k=>w.heap.size<=k) w1.drew w2:=Fr.of_belowAt hb6 (λ k hk=>hk);refine hK.out _ _ hfr (λ hHeld=> ?_);clear hK K hHeld
      try simp only [Act.put,sA,sB,sC]
      refine jac (S':=λ w' =>Fr (λ k=>w.heap.size<=k) w2 w') (λ w' h=>hfr.trans h) ?_;clear hfr;refine tA 6 (some 6) rfl (Fr.refl _ _) ?_;refine tA 7 (some 5) rfl (Fr.refl _ _) ?_;refine tD ?_;have G6:=qH hg6;have B6:=qH (B1.out.trans ((Below.drew (Below.refl _ _)).trans hb6));have hc71:=(B6.out.cell (World.block_lt_of_cell? w _ C70.out)).trans C70.out;have hA:=HA7.out;subst hA;have HLE:=qH (show (acc++p.drop 7).length=acc.length +(p.length-7) from by rw [List.length_append,List.length_drop]);have hfin:=HJ.out;rw [TD0.out] at hfin;have hand:=jqo u;have hls:=LSB.out;obtain⟨v,hv⟩:∃v,v=u &&& 2:=⟨_,rfl⟩;rw [<-hv] at hand hls;clear hg6 hb6 hv
      by_cases hl:v=0
      ·rw [decide_eq_false (λ hh=>hh hl)] at hls
       rw [hls,if_neg (by decide)] at hfin;rw [hl] at hand;have FIN:=qH hfin;clear hfin hls hl;go_wp2_with fail;go_roundg (G-1)
       case measure=>omega
       case rel=>
        refine⟨i+1,tdF p,acc++p.drop 7,A6,c6,by rw [HLE.out],rfl,rfl,by go_num,by omega,by omega,by rw [HLE.out];exact G6.out,B6.out, ?_, ?_⟩
        ·rw [decide_eq_false (by omega)]
         exact FIN.out
        ·have h1:=HAC.out
         rw [HLE.out];omega
      ·rw [decide_eq_true hl] at hls
       rw [hls,if_pos rfl] at hfin;have hv0:¬(v.toNat:Int)=0:=by
        intro hh;exact hl (UInt8.toNat_inj.1 (by show v.toNat=0;omega))
       have FIN:=qH hfin;clear hfin hls hl;go_wp2_with fail;go_ret3;rw [<-FIN.out];have hg:=G6.out;rw [<-HLE.out] at hg;exact⟨A6,c6,by rw [HLE.out];rfl,hg.sl,B6.out,hg.low⟩
    ·have HJ1:=HJ.out
     rw [if_pos hts] at HJ1;have qt:((td.toNat:Int) !=(sm.toNat:Int))=true:=by
      rw [bne_iff_ne];intro hh;exact hts (BitVec.eq_of_toNat_eq (by omega))
     have HJ:=qH HJ1;clear HJ1 hts;go_wp2_with fail;rw [Exit.noGoto_ret];go_ret3;rw [<-HJ.out];exact⟨none,0,rfl,Sl.nil _ _ _ (by decide),B1.out,λ b o h0=>absurd h0 (by decide)⟩
   ·have hfm:fmB p a0=false:=by simpa using hfm
    rw [hfm,if_pos rfl] at hj;rw [hfm] at hfo;have HJ:=qH hj;clear hj hfm;go_wp2_with fail;refine hfo.mono ?_;clear hfo;rintro e w1 ⟨rfl,hw1⟩;obtain rfl:=hw1;go_wp2_with fail;rw [Exit.noGoto_ret];go_ret3;rw [<-HJ.out];exact⟨none,0,rfl,Sl.nil _ _ _ (by decide),BE.out,λ b o h0=>absurd h0 (by decide)⟩
  ·obtain rfl:n=i:=by omega
   rw [List.drop_of_length_le (by rw [HH.out.len];exact Nat.le_refl _),joinL] at hj;have HJ:=qH hj;clear hj;go_wp2_with fail;rw [Exit.noGoto_ret];go_ret3;rw [<-HJ.out];exact⟨none,0,rfl,Sl.nil _ _ _ (by decide),BE.out,λ b o h0=>absurd h0 (by decide)⟩
end
end Go.Proofs.YtmhejbihdghhaaaGreatDoor

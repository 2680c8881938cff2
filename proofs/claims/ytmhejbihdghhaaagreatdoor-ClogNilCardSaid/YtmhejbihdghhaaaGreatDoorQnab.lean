/-
  Contracts of package clog's cut and Need (layer 18)
-/
import Derived.Test.YtmhejbihdghhaaaGreatDoorQnaa
import Derived.RangeFuncWrites
import Derived.Deep.MidRow
import Derived.OwnWalkIn
import Derived.TacticsInMore
namespace Go.Proofs.YtmhejbihdghhaaaGreatDoor
set_option linter.unusedVariables false
section
open Go.RowKit Go.Proofs
set_option maxRecDepth 20000
set_option maxHeartbeats 3200000
section
variable {Rep:World->(Nat->Prop)->Nat->Dv->Prop}{w:World}{S:Nat->Prop}{A C k m F T N:Nat}{xs:List Dv}
def RetPcs18 (k:Nat)(v:RvF)(w:World)(e':Ending)(w':World):Prop:=∃g c,e' = .returned (.tuple #[.slice (some ⟨g,0,none⟩) c c, .int .i64 0])∧Gm w' w.heap.size (some ⟨g,0,none⟩) c c (cut18 k v.x)∧Below w.heap.size w w' ∧w.heap.size<=g
theorem lcut_yes (v:RvF)(o sl e:Nat)(h:Cod w C k m F T)(hN:Nt w)(hv:v.Ok w)(hf:v.fit)(hr:okR v.x.2=true):
  Calls Tryz.prog 50 #[.agg (arV A C o sl e).toArray, .agg v.vals.toArray] w (RetPcs18 k v w):=by
 have hk1:=h.k1;have hk2:=h.n255;have hsh:=txt18_short hr;obtain⟨wa,hwa⟩:∃x,x=(w.alloc (.cells (arV A C o sl e).toArray 82)).alloc (.cells v.vals.toArray 42):=⟨_,rfl⟩;have hb0:Below w.heap.size w wa:=by rw [hwa];exact((Below.refl _ _).alloc (Nat.le_refl _) _).alloc (by simp) _
 have hq:ReB wa (w.heap.size+1) v.st v.A v.cs.length v.c:=by
  rw [hwa];have h0:=ReB.new (w:=w.alloc (.cells (arV A C o sl e).toArray 82)) (st:=v.st) (A:=v.A) (n:=v.cs.length) (c:=v.c)
  rwa [show (w.alloc (.cells (arV A C o sl e).toArray 82)).heap.size=w.heap.size+1 from by simp] at h0
 have hra:wa.rangeAt w.heap.size 0 (arV A C o sl e):=by
  rw [hwa];exact area_later (area_new w A C o sl e) ((Below.refl _ _).alloc (Nat.le_refl _) _)
 have hp:=putRecord_yes v.st hf.1 v.A v.cs.length v.c v.cs wa (hv.below hb0) hr (λ c hc=>hf.2 c hc);have HN:=qH (hN.keep hb0);have HC:=qH (h.later hb0);have B0:=qH hb0;have Q0:=qH hq;have R0:=qH hra;have HA:=qH hwa;have HP:=qH hp;have HSH:=qH hsh;clear h hN hv hf hr hsh hwa hb0 hq hra hp;have hva:v.vals.toArray= #[.int .u64 (v.st:Int), .slice v.A v.cs.length v.c]:=rfl;rw [hva] at HA ⊢;unfold arV at HA ⊢;go_enter Tryz.func50,Tryz.ntmps50;have hwa:=HA.out.symm;go_wp2_with (first|(rw [hwa])|(refine at_dst17 (d:=9) ?_;refine wpList_step17 (o:=⟨some 9,_,_,_,_,_⟩) (by rfl) _ _ (step_loadRe rfl rfl Q0.out) ?_));refine HP.out.mono ?_;clear HP;rintro e' w1 ⟨A2,n2,c2,rfl,hs1,hb1⟩;have B1:=qH (B0.out.trans (hb1.mono B0.out.size));have S1:=qH hs1;have C1:=qH (HC.out.later hb1);have N1:=qH (HN.out.keep hb1);have R1:=qH (area_later R0.out hb1);have a1:=R1.out 1 _ rfl;rw [Nat.zero_add] at a1
 clear hs1 hb1 hwa;go_wp2_with fail;refine(sroom_any C1.out).mono ?_;rintro e' w2 ⟨rfl,hw⟩;obtain rfl:w1=w2:=hw.symm;have hln:n2=(txt18 v.x).length:=by have:=S1.out.len;rw [cells_length,Nat.mul_one] at this;exact this.symm
 have hcu:=cut17_new A2 n2 c2 (txt18 v.x) ((44*k:Nat):Int) (44*k-7) (by omega) (by omega) (by omega) w1 S1.out (by have:=HSH.out;omega) N1.out;have HCU:=qH hcu;clear hcu hln;go_wp2_with fail;refine HCU.out.mono ?_;clear HCU;rintro e' w3 ⟨g,q,rfl,hg,hb3,hg3⟩;have B3:=qH (B1.out.trans (hb3.mono B1.out.size));have G3:=qH (hg.lower B1.out.size);clear hg hb3;go_wp2_with fail;go_ret2;exact⟨g,q,rfl,G3.out,B3.out,by have:=B1.out.size;omega⟩
theorem lcut_no (v:RvF)(o sl e:Nat)(hv:v.Ok w)(hr:okR v.x.2=false):
  Calls Tryz.prog 50 #[.agg (arV A C o sl e).toArray, .agg v.vals.toArray] w λ e' w' =>e' = .returned (.tuple #[.slice none 0 0, .int .i64 2])∧Below w.heap.size w w':=by
 obtain⟨wa,hwa⟩:∃x,x=(w.alloc (.cells (arV A C o sl e).toArray 82)).alloc (.cells v.vals.toArray 42):=⟨_,rfl⟩;have hb0:Below w.heap.size w wa:=by rw [hwa];exact((Below.refl _ _).alloc (Nat.le_refl _) _).alloc (by simp) _
 have hq:ReB wa (w.heap.size+1) v.st v.A v.cs.length v.c:=by
  rw [hwa];have h0:=ReB.new (w:=w.alloc (.cells (arV A C o sl e).toArray 82)) (st:=v.st) (A:=v.A) (n:=v.cs.length) (c:=v.c)
  rwa [show (w.alloc (.cells (arV A C o sl e).toArray 82)).heap.size=w.heap.size+1 from by simp] at h0
 have hp:=putRecord_no v.st v.A v.cs.length v.c v.cs wa (hv.below hb0) hr;have B0:=qH hb0;have Q0:=qH hq;have HA:=qH hwa;have HP:=qH hp;clear hv hr hwa hb0 hq hp;have hva:v.vals.toArray= #[.int .u64 (v.st:Int), .slice v.A v.cs.length v.c]:=rfl;rw [hva] at HA ⊢;unfold arV at HA ⊢;go_enter Tryz.func50,Tryz.ntmps50;have hwa:=HA.out.symm;go_wp2_with (first|(rw [hwa])|(refine at_dst17 (d:=9) ?_;refine wpList_step17 (o:=⟨some 9,_,_,_,_,_⟩) (by rfl) _ _ (step_loadRe rfl rfl Q0.out) ?_));refine HP.out.mono ?_;clear HP;rintro e' w1 ⟨rfl,hb1⟩;have B1:=qH (B0.out.trans (hb1.mono B0.out.size));clear hb1 hwa;go_wp2_with fail;go_ret2;exact⟨rfl,B1.out⟩
theorem lneed_yes (v:RvF){P o sl e u:Nat}(h:Cod w C k m F T)(hN:Nt w)(hl:LgB w P A C o sl e u)(hv:v.Ok w)(hf:v.fit)(hr:okR v.x.2=true):
  Calls Tryz.prog 15 #[.pointer (some ⟨P,0,none⟩), .agg v.vals.toArray] w λ e' w' =>e' = .returned (.int .i64 (((cut18 k v.x).length:Nat)))∧Below w.heap.size w w':=by
 obtain⟨wa,hwa⟩:∃x,x=w.alloc (.cells v.vals.toArray 42):=⟨_,rfl⟩;have hb0:Below w.heap.size w wa:=by rw [hwa];exact(Below.refl _ _).alloc (Nat.le_refl _) _
 have hq:ReB wa w.heap.size v.st v.A v.cs.length v.c:=by rw [hwa];exact ReB.new
 have hcut:=λ W (hb:Below w.heap.size w W)=>lcut_yes (A:=A) v o sl e (h.later hb) (hN.keep hb) (hv.below hb) hf hr
 have HC:=qH hcut;have B0:=qH hb0;have Q0:=qH hq;have L0:=qH (hl.later hb0);have HM:=qH (lmade_any (hl.later hb0));have HA:=qH hwa;have HF:=qH hf;clear h hN hl hv hf hwa hb0 hq hcut;have hva:v.vals.toArray= #[.int .u64 (v.st:Int), .slice v.A v.cs.length v.c]:=rfl;rw [hva] at HA ⊢;go_enter Tryz.func15,Tryz.ntmps15;have hwa:=HA.out.symm;go_wp2_with (rw [hwa]);refine HM.out.mono ?_;clear HM;rintro e' w1 ⟨rfl,hw⟩;obtain rfl:wa=w1:=hw.symm;clear hwa;go_wp2_with fail;refine wp_region_held_drew (S:=λ w' =>Fr (λ _=>False) wa.drew w') (by kernel_rfl) (Fr.refl _ _) (λ hHeld=> ?_);clear hHeld;refine tA 0 (some 11) rfl (Fr.refl _ _) ?_;refine tA 1 (some 12) rfl (Fr.refl _ _) ?_;refine tA 2 (some 13) rfl (Fr.refl _ _) ?_;refine tL 3 (some 14) (v:=(.agg (arV A C o sl e).toArray)) rfl ?ycnny3 (Fr.refl _ _) ?rcnny3
 case ycnny3=>
  intro wq hSw;exact step_loadMid17 rfl rfl (λ j u hu=>hSw.cell_some (L0.out.area j u hu) (λ h=>h)) Tryz.underlying82 rfl (size_area A C o sl e)
 try simp only [Act.put,sA,sB,sC]
 refine tL 4 (some 15) (v:=(.agg v.vals.toArray)) rfl ?ycnny4 (Fr.refl _ _) ?rcnny4
 case ycnny4=>
  intro wq hSw;exact step_loadRe rfl rfl (show ReB wq w.heap.size v.st v.A v.cs.length v.c from hSw.row_some Q0.out (λ h=>h))
 try simp only [Act.put,sA,sB,sC]
 refine rW 5 (some 16) rfl λ K hK=> ?_
 go_simp;refine(HC.out wa.drew (Below.drew B0.out)).mono ?_;rintro e' w2 ⟨g,q,rfl,hg,hb2, -⟩;have hfr:Fr (λ _=>False) wa.drew w2:=Fr.of_below hb2;go_wp2_with fail;refine hK.out _ _ hfr (λ hHeld=> ?_);clear hK K hHeld
 try simp only [Act.put,sA,sB,sC]
 refine wpAnyH_re (S':=λ w' =>Fr (λ _=>False) w2 w') (λ w' h=>hfr.trans h) ?_;clear hfr;refine tA 6 (some 10) rfl (Fr.refl _ _) ?_;refine tA 7 (some 17) rfl (Fr.refl _ _) ?_;refine tA 8 (some 18) rfl (Fr.refl _ _) ?_;refine tA 9 (some 5) rfl (Fr.refl _ _) ?_;refine tA 10 (some 6) rfl (Fr.refl _ _) ?_;refine tD ?_;have B2:=qH ((Below.drew B0.out).trans (hb2.mono (Below.drew B0.out).size));obtain rfl:q=(cut18 k v.x).length:=by have:=hg.gr.len;exact this.symm
 go_wp2_with fail;go_ret;exact⟨rfl,B2.out⟩
theorem lneed_no (v:RvF){P o sl e u:Nat}(h:Cod w C k m F T)(hN:Nt w)(hl:LgB w P A C o sl e u)(hv:v.Ok w)(hf:v.fit)(hr:okR v.x.2=false):
  Calls Tryz.prog 15 #[.pointer (some ⟨P,0,none⟩), .agg v.vals.toArray] w λ e' w' =>e' = .returned (.int .i64 (0))∧Below w.heap.size w w':=by
 obtain⟨wa,hwa⟩:∃x,x=w.alloc (.cells v.vals.toArray 42):=⟨_,rfl⟩;have hb0:Below w.heap.size w wa:=by rw [hwa];exact(Below.refl _ _).alloc (Nat.le_refl _) _
 have hq:ReB wa w.heap.size v.st v.A v.cs.length v.c:=by rw [hwa];exact ReB.new
 have hcut:=λ W (hb:Below w.heap.size w W)=>lcut_no (A:=A) (C:=C) v o sl e (hv.below hb) hr
 have HC:=qH hcut;have B0:=qH hb0;have Q0:=qH hq;have L0:=qH (hl.later hb0);have HM:=qH (lmade_any (hl.later hb0));have HA:=qH hwa;have HF:=qH hf;clear h hN hl hv hf hwa hb0 hq hcut;have hva:v.vals.toArray= #[.int .u64 (v.st:Int), .slice v.A v.cs.length v.c]:=rfl;rw [hva] at HA ⊢;go_enter Tryz.func15,Tryz.ntmps15;have hwa:=HA.out.symm;go_wp2_with (rw [hwa]);refine HM.out.mono ?_;clear HM;rintro e' w1 ⟨rfl,hw⟩;obtain rfl:wa=w1:=hw.symm;clear hwa;go_wp2_with fail;refine wp_region_held_drew (S:=λ w' =>Fr (λ _=>False) wa.drew w') (by kernel_rfl) (Fr.refl _ _) (λ hHeld=> ?_);clear hHeld;refine tA 0 (some 11) rfl (Fr.refl _ _) ?_;refine tA 1 (some 12) rfl (Fr.refl _ _) ?_;refine tA 2 (some 13) rfl (Fr.refl _ _) ?_;refine tL 3 (some 14) (v:=(.agg (arV A C o sl e).toArray)) rfl ?ycnnn3 (Fr.refl _ _) ?rcnnn3
 case ycnnn3=>
  intro wq hSw;exact step_loadMid17 rfl rfl (λ j u hu=>hSw.cell_some (L0.out.area j u hu) (λ h=>h)) Tryz.underlying82 rfl (size_area A C o sl e)
 try simp only [Act.put,sA,sB,sC]
 refine tL 4 (some 15) (v:=(.agg v.vals.toArray)) rfl ?ycnnn4 (Fr.refl _ _) ?rcnnn4
 case ycnnn4=>
  intro wq hSw;exact step_loadRe rfl rfl (show ReB wq w.heap.size v.st v.A v.cs.length v.c from hSw.row_some Q0.out (λ h=>h))
 try simp only [Act.put,sA,sB,sC]
 refine rW 5 (some 16) rfl λ K hK=> ?_
 go_simp;refine(HC.out wa.drew (Below.drew B0.out)).mono ?_;rintro e' w2 ⟨rfl,hb2⟩;have hfr:Fr (λ _=>False) wa.drew w2:=Fr.of_below hb2;go_wp2_with fail;refine hK.out _ _ hfr (λ hHeld=> ?_);clear hK K hHeld
 try simp only [Act.put,sA,sB,sC]
 refine wpAnyH_re (S':=λ w' =>Fr (λ _=>False) w2 w') (λ w' h=>hfr.trans h) ?_;clear hfr;refine tA 6 (some 10) rfl (Fr.refl _ _) ?_;refine tA 7 (some 17) rfl (Fr.refl _ _) ?_;refine tA 8 (some 18) rfl (Fr.refl _ _) ?_;refine tA 9 (some 5) rfl (Fr.refl _ _) ?_;refine tA 10 (some 6) rfl (Fr.refl _ _) ?_;refine tD ?_;have B2:=qH ((Below.drew B0.out).trans (hb2.mono (Below.drew B0.out).size));go_wp2_with fail;go_ret;exact⟨rfl,B2.out⟩
end
end
section
open Go.RowKit Go.Proofs
set_option maxRecDepth 20000
set_option maxHeartbeats 3200000
end
section
open Go.RowKit Go.Proofs
set_option maxRecDepth 20000
set_option maxHeartbeats 1600000
theorem Own.frE {w w':World}{B n c:Nat}{T:TypeId}{A:Option Addr}{xs:List Value}{S:Nat->Prop}(h:Own w B T 1 A n c xs)(hf:Fr S w w')(hA:∀b o,A=some ⟨b,o,none⟩->¬S b):Own w' B T 1 A n c xs:=by
 refine⟨h.sl.fr hf λ b o _ e=>hA b o e, ?_⟩
 rcases h.own with h1|⟨hl,hv⟩
 ·exact .inl h1
 ·right
  refine⟨hl, ?_⟩
  rcases hv with hv|⟨g,cap,cur,hv,hbg,hg,hr⟩
  ·exact .inl hv
  ·have hA':=hv
   injection hA' with hA' _ _
   exact .inr ⟨g,cap,cur,hv,hbg,hf.row_some hg (hA g 0 hA'),hr⟩
end
section
open Go.RowKit Go.Proofs
theorem cutN_room (long:Nat):∀(k:Nat) (a:Bool) (s:W32) (b:List UInt8) (j:Nat) (p:List UInt8),b.length<=k*long->(k-1)*long<=b.length->(cutG17 long k a s b)[j]? =some p->p.length<=long+7∧(j+1<k->p.length=long+7)
 |0,_,_,_,j,p,_,_,h=>by simp [cutG17] at h
 |1,a,s,b,j,p,h1,h2,h=>by
  rw [cutG17] at h
  cases j with
  |zero=>
   simp at h;subst h;rw [pcF_len];exact⟨by omega,λ h=>by omega⟩
  |succ j=>simp at h
 |k+2,a,s,b,j,p,h1,h2,h=>by
  have e1:(k+2)*long=(k+1)*long+long:=by rw [show k+2=(k+1)+1 from rfl,Nat.add_mul (k+1) 1,Nat.one_mul]
  have e2:(k+2-1)*long=k*long+long:=by rw [show k+2-1=k+1 from by omega,Nat.add_mul,Nat.one_mul]
  rw [cutG17] at h
  cases j with
  |zero=>
   simp at h;subst h;rw [pcF_len,List.length_take];exact⟨by omega,λ h=>by omega⟩
  |succ j=>
   rw [List.getElem?_cons_succ] at h;have h3:=cutN_room long (k+1) _ _ _ j p (by rw [List.length_drop];omega) (by rw [List.length_drop,Nat.add_sub_cancel];omega) h;exact⟨h3.1,λ h=>h3.2 (by omega)⟩
theorem cutF_room {long:Nat}(h0:0<long){b:List UInt8}{j:Nat}{p:List UInt8}(h:(cutF long b)[j]? =some p):p.length<=long+7∧(j+1<manyF long b.length->p.length=long+7):=by
 refine cutN_room long _ _ _ b j p (manyF_le h0) ?_ h;have h1:=manyF_pos long b.length
 rcases Nat.eq_zero_or_pos (manyF long b.length-1) with h2|h2
 ·rw [h2,Nat.zero_mul];omega
 ·have h3:=manyF_lt h0 (n:=b.length) (i:=manyF long b.length-2) (by omega)
  rw [show manyF long b.length-2+1=manyF long b.length-1 from by omega] at h3;omega
end
section
open Go.RowKit Go.Proofs
set_option maxRecDepth 20000
set_option maxHeartbeats 3200000
theorem cut18_short {k:Nat}(hk:1<=k)(r:Rec18):∀b∈cut18 k r,b.length<=44*k:=λ b hb=>by
 obtain⟨i,hi⟩:=List.getElem?_of_mem hb;have:=(cutF_room (long:=44*k-7) (by omega) hi).1;omega
theorem info_rec18:(Tryz.prog.info? 42).map (λ i=>(i.zero,i.size,i.bytes))=some (some (.agg #[.int .u64 0, .slice none 0 0]),2,32):=by kernel_rfl
theorem fill2 (z0 z1 v0 v1:Value):Instr.fill (λ i=>some (i*2,2)) ((Array.range (1*2)).map ((Value.agg #[z0,z1]).cells[· % (Value.agg #[z0,z1]).cells.size]!)) [(0, .agg #[v0,v1])]=some #[v0,v1]:=by kernel_rfl
theorem fill2a {z0 z1 v0 v1:Value}(a:Act)(x:Operand)(h:a.eval x= .agg #[v0,v1]):Instr.fill (λ i=>some (i*2,2)) ((Array.range (1*2)).map ((Value.agg #[z0,z1]).cells[· % (Value.agg #[z0,z1]).cells.size]!)) (Array.map (λ (i,x)=>(i,a.eval x)) #[((0:Nat),x)]).toList=some #[v0,v1]:=by
 have e:(Array.map (λ (i,x)=>(i,a.eval x)) #[((0:Nat),x)]).toList= [(0,a.eval x)]:=by simp
 rw [e,h];exact fill2 ..
theorem Nxt.of_below18 {S:Nat->Prop}{w w':World}(hb:Below w.heap.size w w'):Nxt S S w w':=⟨Fr.of_below hb,λ b h=> .inl h⟩
theorem Nxt.with18 {S S':Nat->Prop}{w w':World}{P:Nat}(h:Nxt S S' w w'):Nxt (λ b=>S b∨b=P) (λ b=>S' b∨b=P) w w':=
 ⟨h.1.mono (λ b hb=> .inl hb),λ b hb=>hb.elim (λ q=>(h.2 b q).imp .inl id) (λ q=> .inl (.inr q))⟩
theorem rec_below (w:World)(v:RvF):Below w.heap.size w (w.alloc (.cells v.vals.toArray 42)):=(Below.refl _ _).alloc (Nat.le_refl _) _
section
variable {Rep:World->(Nat->Prop)->Nat->Dv->Prop}{Lg:World->Nat->Nat->Nat->Nat->Nat->Nat->Nat->Prop}
end
end
section
open Go.RowKit Go.Proofs
set_option maxRecDepth 20000
set_option maxHeartbeats 3200000
theorem LgB.used {w:World}{P A C o sl e u:Nat}(h:LgB w P A C o sl e u)(u':Nat):LgB (w.setCell ⟨P,5,none⟩ (.int .i64 (u':Int))) P A C o sl e u':=heap_setCell_same w P 5 _ _ _ h
theorem putsS_snoc {k n o e:Nat}(b:List UInt8):∀(ps:List (List UInt8)) (u:Nat) (xs:List Dv),putsS k n o e (ps ++ [b]) u xs=putAll k n 2 (o +(u+ps.length)) (genN e ((u+ps.length:Nat):Int)) b (putsS k n o e ps u xs)
 | [],u,xs=>rfl
 |c::r,u,xs=>by
  rw [List.cons_append,putsS,putsS_snoc b r (u+1),putsS,List.length_cons,show u+1+r.length=u +(r.length+1) from by omega]
theorem putsS_wl {k n o e:Nat}:∀(ps:List (List UInt8)) (u c:Nat) (xs:List Dv),Wl c xs->Wl (c+ps.length) (putsS k n o e ps u xs)
 | [],u,c,xs,h=>h
 |b::r,u,c,xs,h=>by
  rw [putsS,List.length_cons,show c +(r.length+1)=c+1+r.length from by omega];exact putsS_wl r (u+1) (c+1) _ (putAll_wl h)
theorem Gm.grF18 {w w':World}{B g n c:Nat}{rs:List (List UInt8)}{U:Nat->Prop}(h:Gm w B (some ⟨g,0,none⟩) n c rs)(hg:B<=g)(hf:Fr U w w')(hU:∀b,B<=b->b<w.heap.size->¬U b):Gr w' (some ⟨g,0,none⟩) n c rs:=by
 obtain⟨vs,⟨s,hr,hl⟩,h2, -⟩:=h.ex;refine⟨⟨vs,s.fr hf (λ b o hn e=> ?_),λ i r hi=> ?_⟩,hl⟩
 ·have hb:=s.lt (by decide) hn e
  injection e with e
  injection e with e1 e2 e3
  subst e1;exact hU g hg hb
 ·obtain⟨A',c',q1,q2⟩:=hr i r hi
  refine⟨A',c',q1,q2.fr hf λ b o hn e=> ?_⟩;have hb:=q2.lt (by decide) hn e;obtain⟨g',c'',q3,q4,q5⟩:=h2.row i r hi hn;obtain⟨g2,cur,q6,q7,_⟩:=q5 hn;have q3:vs[i]? =some (Value.slice (some ⟨g',0,none⟩) r.length c''):=q3;rw [q1,e] at q3;injection q3 with q3
  injection q3 with q3 _ _
  rw [<-q3] at q6;injection q6 with q6
  injection q6 with q6 _ _
  exact hU b (by omega) hb
section
variable {Rep:World->(Nat->Prop)->Nat->Dv->Prop}{w:World}{S:Nat->Prop}{A C k m F T N P o sl e u:Nat}{xs:List Dv}
theorem LgB.apart (h:LgB w P A C o sl e u)(hc:Cod w C k m F T)(hN:Nt w)(hA:A≠T):C≠P∧F≠P∧T≠P∧0≠P:=by
 have h0:=h.c0;refine⟨λ q=> ?_,λ q=> ?_,λ q=> ?_,λ q=> ?_⟩
 ·have h1:=hc.row
  rw [q,show w.heap[P]? =_ from h] at h1
  cases h1
 ·have h1:=hc.fld.cell
  rw [q,h0] at h1;injection h1 with h1
  injection h1 with h1
  injection h1 with h1
  injection h1 with h1 _ _
  exact hA h1
 ·have h1:=hc.fld.tabs
  unfold Tabs at h1;rw [q,show w.heap[P]? =_ from h] at h1;injection h1 with h1
  injection h1 with _ h1 _
  exact absurd h1 (by decide)
 ·obtain⟨t,fr,h1⟩:=hN.block
  rw [q,show w.heap[P]? =_ from h] at h1;injection h1 with h1
  injection h1 with h1 _ _
  have h2:=congrArg (λ a=>a.toList.head?) h1
  cases hn:nt with
  |nil=>rw [hn] at h2;simp at h2
  |cons z r=>rw [hn] at h2;simp at h2
theorem Ac13.used18 (DK:DrvK Rep)(h:Ac13 Rep w S A C k m F T N xs)(hS:¬S P)(hl:LgB w P A C o sl e u)(v:Value):Ac13 Rep (w.setCell ⟨P,5,none⟩ v) S A C k m F T N xs:=by
 have hA:A≠T:=λ q=>by
  obtain⟨AL,c,ds,ha,_⟩:=h.a;have h1:=ha.box;have h2:=h.c.fld.tabs;unfold Tabs at h2;rw [<-q,h1] at h2;injection h2 with h2
  injection h2 with _ h2 _
  exact absurd h2 (by decide)
 obtain⟨h1,h2,h3,h4⟩:=hl.apart h.c h.nt hA;have hf:Fr (λ b=>b=P) w (w.setCell ⟨P,5,none⟩ v):=(Fr.refl (λ b=>b=P) w).setCell (p:=⟨P,5,none⟩) (.inr rfl) _;exact⟨Arr.fr DK.lay h.a hf (λ b hb e=>hS (by rw [<-(show b=P from e)];exact hb)),h.c.fr hf h1 h2 h3,h.ap,h.len,h.n,h.wl,h.nt.fr13 hf h4,h.ng⟩
theorem lappend_yes {f:Nat->Option (Nat × List UInt8)}(DK:DrvK Rep)(SV:StrV Rep (λ k n G=>k<=cntG n G))(v:RvF)(h:Ac13 Rep w S A C k m F T N xs)(hp:Pls xs k (k+m) N f)(hw:Wl 900 xs)(hS:¬S P)(hl:LgB w P A C o sl e u)(hu:u<=sl)(hs:sl<=64)(ho:o+sl<=N)(hN:N<=600)(he:e<1099511627776)(hv:v.Ok w)(hf:v.fit)(hr:okR v.x.2=true)(hn:(cut18 k v.x).length<=sl-u):
  Calls Tryz.prog 17 #[.pointer (some ⟨P,0,none⟩), .agg v.vals.toArray] w λ e' w' =>e' = .returned (.int .i64 0)∧∃S',Ac13 Rep w' S' A C k m F T N (putsS k (k+m) o e (cut18 k v.x) u xs)∧Nxt (λ b=>S b∨b=P) (λ b=>S' b∨b=P) w w' ∧¬S' P∧LgB w' P A C o sl e (u +(cut18 k v.x).length):=by
 have hk1:=h.c.k1;have hk2:=h.c.n255;obtain⟨wa,hwa⟩:∃x,x=w.alloc (.cells v.vals.toArray 42):=⟨_,rfl⟩;have hb0:Below w.heap.size w wa:=by rw [hwa];exact(Below.refl _ _).alloc (Nat.le_refl _) _
 have hq:ReB wa w.heap.size v.st v.A v.cs.length v.c:=by rw [hwa];exact ReB.new
 have hcut:=λ W (hb:Below w.heap.size w W)=>lcut_yes (A:=A) v o sl e (h.c.later hb) (h.nt.keep hb) (hv.below hb) hf hr
 have hshort:=cut18_short hk1 v.x;obtain⟨ps,hps⟩:∃x,x=cut18 k v.x:=⟨_,rfl⟩;rw [<-hps] at hn hshort ⊢;have hstep:∀i,i<=ps.length->Pls (putsS k (k+m) o e (ps.take i) u xs) k (k+m) N (putsF o e (ps.take i) u f)∧Wl 1000 (putsS k (k+m) o e (ps.take i) u xs):=λ i hi=>by
  have e1:(ps.take i).length=i:=by rw [List.length_take];omega
  exact⟨Pls.puts (o:=o) (e:=e) hk1 (by omega) (by omega) _ u xs f hp (by omega) (λ b hb=>hshort b (List.mem_of_mem_take hb)),(putsS_wl (ps.take i) u 900 xs hw).mono13 (by omega)⟩
 have hput:∀i b W S' (ys:List Dv) A2 c2,Ac13 Rep W S' A C k m F T N ys->ps[i]? =some b->Sl W 1 A2 b.length c2 (cells b)->Calls Tryz.prog 52 #[.pointer (some ⟨A,0,none⟩), .pointer (some ⟨C,0,none⟩),nmV o e (u+i), .slice A2 b.length c2] W λ e' w' =>e' = .returned (.tuple #[.int .i64 (cntG (k+m) (liveG ys):Nat), .int .i64 0])∧MutA Rep S' A (putAll k (k+m) 2 (o +(u+i)) (genN e ((u+i:Nat):Int)) b ys) W w':=λ i b W S' ys A2 c2 ha hb hsl=>by
  have hi:i<ps.length:=(List.getElem?_eq_some_iff.1 hb).1;exact SV.put 2 (o +(u+i)) (genN e ((u+i:Nat):Int)) b A2 c2 ha (ref18 (by omega) (genN_lt _ _) (hshort b (List.mem_of_getElem? hb)) (by omega)) (by omega) hsl
 have HC:=qH hcut;have B0:=qH hb0;have Q0:=qH hq;have L0:=qH (hl.later hb0);have HM:=qH (lmade_any (hl.later hb0));have HA:=qH hwa;have AC:=qH h;have HPS:=qH hps;have ST:=qH hstep;have PU:=qH hput;have HE:=qH he;have HS:=qH hS;have PW:=qH hl.lt;have SO:=qH (λ b (hb:S b)=>h.a.old hb);clear h hp hw hS hl hv hf hr hwa hb0 hq hcut hps hstep hput hshort he;have hva:v.vals.toArray= #[.int .u64 (v.st:Int), .slice v.A v.cs.length v.c]:=rfl;rw [hva] at HA ⊢;go_enter Tryz.func17,Tryz.ntmps17;have hwa:=HA.out.symm;go_wp2_with (rw [hwa]);refine HM.out.mono ?_;clear HM;rintro e' w1 ⟨rfl,hw⟩;obtain rfl:wa=w1:=hw.symm;clear hwa;go_wp2_with fail;refine wp_region_held_drew (S:=λ w' =>Fr (λ _=>False) wa.drew w') (by kernel_rfl) (Fr.refl _ _) (λ hHeld=> ?_);clear hHeld;refine tA 0 (some 13) rfl (Fr.refl _ _) ?_;refine tA 1 (some 14) rfl (Fr.refl _ _) ?_;refine tA 2 (some 15) rfl (Fr.refl _ _) ?_
 refine tL 3 (some 16) (v:=(.agg (arV A C o sl e).toArray)) rfl ?yca3 (Fr.refl _ _) ?rca3
 case yca3=>
  intro wq hSw;exact step_loadMid17 rfl rfl (λ j u hu=>hSw.cell_some (L0.out.area j u hu) (λ h=>h)) Tryz.underlying82 rfl (size_area A C o sl e)
 try simp only [Act.put,sA,sB,sC]
 refine tL 4 (some 17) (v:=(.agg v.vals.toArray)) rfl ?yca4 (Fr.refl _ _) ?rca4
 case yca4=>
  intro wq hSw;exact step_loadRe rfl rfl (show ReB wq w.heap.size v.st v.A v.cs.length v.c from hSw.row_some Q0.out (λ h=>h))
 try simp only [Act.put,sA,sB,sC]
 refine rW 5 (some 18) rfl λ K hK=> ?_
 go_simp;refine(HC.out wa.drew (Below.drew B0.out)).mono ?_;rintro e' w2 ⟨g,q,rfl,hg,hb2,hgn⟩;have hfr:Fr (λ _=>False) wa.drew w2:=Fr.of_below hb2;go_wp2_with fail;refine hK.out _ _ hfr (λ hHeld=> ?_);clear hK K hHeld
 try simp only [Act.put,sA,sB,sC]
 refine wpAnyH_re (S':=λ w' =>Fr (λ _=>False) w2 w') (λ w' h=>hfr.trans h) ?_;clear hfr;refine tA 6 (some 12) rfl (Fr.refl _ _) ?_;refine tA 7 (some 19) rfl (Fr.refl _ _) ?_;refine tA 8 (some 20) rfl (Fr.refl _ _) ?_;refine tA 9 (some 5) rfl (Fr.refl _ _) ?_;refine tA 10 (some 6) rfl (Fr.refl _ _) ?_;refine tD ?_;have B2:=qH ((Below.drew B0.out).trans (hb2.mono (Below.drew B0.out).size));have hbw:Below wa.heap.size wa w2:=(Below.drew (Below.refl _ _)).trans hb2;have L2:=qH (L0.out.later hbw);have WZ:=qH (show w.heap.size<=wa.heap.size from B0.out.size);have GN:=qH (show wa.heap.size<=g from hgn);rw [<-HPS.out] at hg;obtain rfl:q=ps.length:=by have:=hg.gr.len;exact this.symm
 have GM:=qH (show Gm w2 wa.heap.size (some ⟨g,0,none⟩) ps.length ps.length ps from hg);have AC2:=qH (AC.out.later DK B2.out);have HLF:=qH (lleft_any L2.out hu hs);clear hb2 hg hgn hbw;go_wp2_with fail;refine HLF.out.mono ?_;clear HLF;rintro e' w3 ⟨rfl,hb3⟩;have B3:=qH (B2.out.trans (hb3.mono B2.out.size));have L3:=qH (L2.out.later hb3);have GM3:=qH ((GM.out.later hb3));have AC3:=qH (AC2.out.later DK hb3);clear hb3;have hle:¬((sl-u:Nat):Int)<(ps.length:Int):=by omega
 go_wp2_with fail;have HNN:=qH hn;have hz:¬sl-u<ps.length:=by omega
 simp only [decide_eq_false hz];clear hle hn hz;go_loopw [31] (λ iv wr=>∃(i:Nat) (S':Nat->Prop),iv= .int .i64 (i:Int)∧i<=ps.length∧Ac13 Rep wr S' A C k m F T N (putsS k (k+m) o e (ps.take i) u xs)∧Nxt (λ b=>S b∨b=P) (λ b=>S' b∨b=P) w3 wr∧¬S' P∧LgB wr P A C o sl e (u+i)) (λ iv _=>ps.length-(intOf iv).toNat)
 case atStart=>exact⟨0,S,rfl,by omega,AC3.out,Nxt.refl _ _,HS.out,L3.out⟩
 case round=>
  obtain⟨i,S',rfl,hi,hac,hnx,hns,hlg⟩:=hrel;have ACR:=qH hac;have NXR:=qH hnx;have NSR:=qH hns;have LR:=qH hlg;clear hac hnx hns hlg;have hui:u+i<=64:=by have:=HNN.out;omega
  by_cases hlt:i<ps.length
  ·have hii:(i:Int)<(ps.length:Int):=by omega
   have hgr:Gr wr (some ⟨g,0,none⟩) ps.length ps.length ps:=GM3.out.grF18 GN.out NXR.out.1 λ b h1 h2 h3=>by
    have hz:=WZ.out
    rcases h3 with h3|h3
    ·have:=SO.out b h3;omega
    ·have:=PW.out;omega
   obtain⟨b,hb⟩:∃b,ps[i]? =some b:=⟨_,List.getElem?_eq_getElem hlt⟩;obtain⟨bk,ok,hA2,hrow⟩:=hgr.at_ (by omega);obtain⟨Ar,cr,hcr,hsr⟩:=hrow i b hb;injection hA2 with hA2
   injection hA2 with e1 e2 e3
   subst e1 e2;rw [Nat.zero_add] at hcr;have SR:=qH hsr;have HB:=qH hb;clear hgr hrow hsr hb;go_wp2_with fail
   skip
   refine wp_region_held_drew (S:=λ w' =>Fr (S') wr.drew w') (by kernel_rfl) (Fr.refl _ _) (λ hHeld=> ?_);clear hHeld;refine tA 0 (some 35) rfl (Fr.refl _ _) ?_;refine tA 1 (some 36) rfl (Fr.refl _ _) ?_;refine tA 2 (some 37) rfl (Fr.refl _ _) ?_;refine tA 3 (some 38) rfl (Fr.refl _ _) ?_;refine tL 4 (some 39) (v:= ?vcb4) rfl ?ycb4 (Fr.refl _ _) ?rcb4
   case ycb4=>
    intro wq hSw
    (try dsimp only at hSw)
    have hc:=hSw.cell_some LR.out.c0 NSR.out;go_simp<;>with_reducible rfl
   try simp only [Act.put,sA,sB,sC]
   refine tA 5 (some 40) rfl (Fr.refl _ _) ?_;refine tA 6 (some 41) rfl (Fr.refl _ _) ?_;refine tA 7 (some 42) rfl (Fr.refl _ _) ?_;refine tA 8 (some 43) rfl (Fr.refl _ _) ?_;refine tL 9 (some 44) (v:= ?vcb9) rfl ?ycb9 (Fr.refl _ _) ?rcb9
   case ycb9=>
    intro wq hSw
    (try dsimp only at hSw)
    have hc:=hSw.cell_some LR.out.c1 NSR.out;go_simp<;>with_reducible rfl
   try simp only [Act.put,sA,sB,sC]
   refine tA 10 (some 45) rfl (Fr.refl _ _) ?_;refine tA 11 (some 46) rfl (Fr.refl _ _) ?_;refine tA 12 (some 47) rfl (Fr.refl _ _) ?_;refine tL 13 (some 48) (v:=(.agg (arV A C o sl e).toArray)) rfl ?ycb13 (Fr.refl _ _) ?rcb13
   case ycb13=>
    intro wq hSw;exact step_loadMid17 rfl rfl (λ j u hu=>hSw.cell_some (LR.out.area j u hu) NSR.out) Tryz.underlying82 rfl (size_area A C o sl e)
   try simp only [Act.put,sA,sB,sC]
   refine tA 14 (some 49) rfl (Fr.refl _ _) ?_;refine tA 15 (some 50) rfl (Fr.refl _ _) ?_;refine tA 16 (some 51) rfl (Fr.refl _ _) ?_;refine tL 17 (some 52) (v:= ?vcb17) rfl ?ycb17 (Fr.refl _ _) ?rcb17
   case ycb17=>
    intro wq hSw
    (try dsimp only at hSw)
    have hc:=hSw.cell_some LR.out.c5 NSR.out;go_simp<;>with_reducible rfl
   try simp only [Act.put,sA,sB,sC]
   refine tA 19 (some 54) rfl (Fr.refl _ _) ?_;refine rW 18 (some 53) rfl λ K hK=> ?_
   go_simp;refine(lname_any A C o sl e (u+i) (by omega) (by omega) HE.out wr.drew).mono ?_;rintro e' w4 ⟨rfl,hb4⟩;have hfr:Fr S' wr.drew w4:=Fr.of_below hb4;go_wp2_with fail;refine hK.out _ _ hfr (λ hHeld=> ?_);clear hK K hHeld
   try simp only [Act.put,sA,sB,sC]
   refine wpAnyH_re (S':=λ w' =>Fr (S') w4 w') (λ w' h=>hfr.trans h) ?_;clear hfr;refine rW 20 (some 55) rfl λ K hK=> ?_
   go_simp;have hbw4:Below wr.heap.size wr w4:=(Below.drew (Below.refl _ _)).trans hb4;have AC4:=qH (ACR.out.later DK hbw4);refine(PU.out i b w4 S' _ Ar cr AC4.out HB.out (SR.out.below hbw4 (Nat.le_refl _))).mono ?_;rintro e' w5 ⟨rfl,hmu⟩;have L4:=qH (LR.out.later hbw4);have hsn:putsS k (k+m) o e (ps.take (i+1)) u xs=putAll k (k+m) 2 (o +(u+i)) (genN e ((u+i:Nat):Int)) b (putsS k (k+m) o e (ps.take i) u xs):=by
    rw [List.take_add_one,HB.out,Option.toList_some,putsS_snoc,List.length_take,Nat.min_eq_left (by omega)]
   rw [<-hsn] at hmu;obtain⟨hpl5,hwl5⟩:=ST.out (i+1) (by omega);obtain⟨S5,hac5,hnx5⟩:=AC4.out.mut hmu (by rw [putsS_len,putsS_len]) (λ d x hx=>⟨(hpl5.live d x hx).1,(hpl5.live d x hx).2.1⟩) hwl5;clear hsn hmu hpl5 hwl5;have hfr:Fr S' w4 w5:=hnx5.1;go_wp2_with fail;refine hK.out _ _ hfr (λ hHeld=> ?_);clear hK K hHeld
   try simp only [Act.put,sA,sB,sC]
   refine wpAnyH_re (S':=λ w' =>Fr (S') w5 w') (λ w' h=>hfr.trans h) ?_;clear hfr;refine tD ?_;have L5:=qH (L4.out.fr hnx5.1 NSR.out);have NX5:=qH (NXR.out.trans ((Nxt.of_below18 hbw4).trans hnx5.with18));have NS5:=qH (show ¬S5 P from λ x=>(hnx5.2 _ x).elim NSR.out (λ y=>by have:=L4.out.lt;omega));have AC5:=qH hac5;have c5:=L5.out.c5;have fz:=L5.out.free 5;clear hac5 hnx5 hbw4 hb4;go_wp2_with fail;go_roundw
   case rel=>
    refine⟨i+1,S5,by go_num,by omega, ?_, ?_,NS5.out, ?_⟩
    ·exact AC5.out.used18 DK NS5.out L5.out _
    ·exact NX5.out.trans ⟨(Fr.refl _ w5).setCell (p:=⟨P,5,none⟩) (.inr (.inr rfl)) _,λ b hb=> .inl hb⟩
    ·have:=L5.out.used (u +(i+1))
     rwa [show ((u +(i+1):Nat):Int)=(u:Int) +(i:Int)+1 from by omega] at this
   case measure=>simp [intOf];omega
  ·obtain rfl:ps.length=i:=by omega
   go_wp2_with fail;go_ret;have hac:=ACR.out;rw [List.take_of_length_le (Nat.le_refl _)] at hac;exact⟨rfl,S',hac,(Nxt.of_below18 (B3.out)).trans NXR.out,NSR.out,LR.out⟩
theorem lappend_no (DK:DrvK Rep)(v:RvF)(h:Cod w C k m F T)(hN:Nt w)(hl:LgB w P A C o sl e u)(hu:u<=sl)(hs:sl<=64)(hv:v.Ok w)(hf:v.fit)(hr:okR v.x.2=false):
  Calls Tryz.prog 17 #[.pointer (some ⟨P,0,none⟩), .agg v.vals.toArray] w λ e' w' =>e' = .returned (.int .i64 2)∧Below w.heap.size w w':=by
 obtain⟨wa,hwa⟩:∃x,x=w.alloc (.cells v.vals.toArray 42):=⟨_,rfl⟩;have hb0:Below w.heap.size w wa:=by rw [hwa];exact(Below.refl _ _).alloc (Nat.le_refl _) _
 have hq:ReB wa w.heap.size v.st v.A v.cs.length v.c:=by rw [hwa];exact ReB.new
 have hcut:=λ W (hb:Below w.heap.size w W)=>lcut_no (A:=A) (C:=C) v o sl e (hv.below hb) hr
 have HC:=qH hcut;have B0:=qH hb0;have Q0:=qH hq;have L0:=qH (hl.later hb0);have HM:=qH (lmade_any (hl.later hb0));have HA:=qH hwa;clear h hN hl hv hf hr hwa hb0 hq hcut;have hva:v.vals.toArray= #[.int .u64 (v.st:Int), .slice v.A v.cs.length v.c]:=rfl;rw [hva] at HA ⊢;go_enter Tryz.func17,Tryz.ntmps17;have hwa:=HA.out.symm;go_wp2_with (rw [hwa]);refine HM.out.mono ?_;clear HM;rintro e' w1 ⟨rfl,hw⟩;obtain rfl:wa=w1:=hw.symm;clear hwa;go_wp2_with fail;refine wp_region_held_drew (S:=λ w' =>Fr (λ _=>False) wa.drew w') (by kernel_rfl) (Fr.refl _ _) (λ hHeld=> ?_);clear hHeld;refine tA 0 (some 13) rfl (Fr.refl _ _) ?_;refine tA 1 (some 14) rfl (Fr.refl _ _) ?_;refine tA 2 (some 15) rfl (Fr.refl _ _) ?_;refine tL 3 (some 16) (v:=(.agg (arV A C o sl e).toArray)) rfl ?ycc3 (Fr.refl _ _) ?rcc3
 case ycc3=>
  intro wq hSw;exact step_loadMid17 rfl rfl (λ j u hu=>hSw.cell_some (L0.out.area j u hu) (λ h=>h)) Tryz.underlying82 rfl (size_area A C o sl e)
 try simp only [Act.put,sA,sB,sC]
 refine tL 4 (some 17) (v:=(.agg v.vals.toArray)) rfl ?ycc4 (Fr.refl _ _) ?rcc4
 case ycc4=>
  intro wq hSw;exact step_loadRe rfl rfl (show ReB wq w.heap.size v.st v.A v.cs.length v.c from hSw.row_some Q0.out (λ h=>h))
 try simp only [Act.put,sA,sB,sC]
 refine rW 5 (some 18) rfl λ K hK=> ?_
 go_simp;refine(HC.out wa.drew (Below.drew B0.out)).mono ?_;rintro e' w2 ⟨rfl,hb2⟩;have hfr:Fr (λ _=>False) wa.drew w2:=Fr.of_below hb2;go_wp2_with fail;refine hK.out _ _ hfr (λ hHeld=> ?_);clear hK K hHeld
 try simp only [Act.put,sA,sB,sC]
 refine wpAnyH_re (S':=λ w' =>Fr (λ _=>False) w2 w') (λ w' h=>hfr.trans h) ?_;clear hfr;refine tA 6 (some 12) rfl (Fr.refl _ _) ?_;refine tA 7 (some 19) rfl (Fr.refl _ _) ?_;refine tA 8 (some 20) rfl (Fr.refl _ _) ?_;refine tA 9 (some 5) rfl (Fr.refl _ _) ?_;refine tA 10 (some 6) rfl (Fr.refl _ _) ?_;refine tD ?_;have B2:=qH ((Below.drew B0.out).trans (hb2.mono (Below.drew B0.out).size));go_wp2_with fail;go_ret;exact⟨rfl,B2.out⟩
theorem lappend_full (DK:DrvK Rep)(v:RvF)(h:Cod w C k m F T)(hN:Nt w)(hl:LgB w P A C o sl e u)(hu:u<=sl)(hs:sl<=64)(hv:v.Ok w)(hf:v.fit)(hr:okR v.x.2=true)(hn:sl-u<(cut18 k v.x).length):
  Calls Tryz.prog 17 #[.pointer (some ⟨P,0,none⟩), .agg v.vals.toArray] w λ e' w' =>e' = .returned (.int .i64 6)∧Below w.heap.size w w':=by
 obtain⟨wa,hwa⟩:∃x,x=w.alloc (.cells v.vals.toArray 42):=⟨_,rfl⟩;have hb0:Below w.heap.size w wa:=by rw [hwa];exact(Below.refl _ _).alloc (Nat.le_refl _) _
 have hq:ReB wa w.heap.size v.st v.A v.cs.length v.c:=by rw [hwa];exact ReB.new
 have hcut:=λ W (hb:Below w.heap.size w W)=>lcut_yes (A:=A) v o sl e (h.later hb) (hN.keep hb) (hv.below hb) hf hr
 have HC:=qH hcut;have B0:=qH hb0;have Q0:=qH hq;have L0:=qH (hl.later hb0);have HM:=qH (lmade_any (hl.later hb0));have HA:=qH hwa;clear h hN hl hv hf hr hwa hb0 hq hcut;have hva:v.vals.toArray= #[.int .u64 (v.st:Int), .slice v.A v.cs.length v.c]:=rfl;rw [hva] at HA ⊢;go_enter Tryz.func17,Tryz.ntmps17;have hwa:=HA.out.symm;go_wp2_with (rw [hwa]);refine HM.out.mono ?_;clear HM;rintro e' w1 ⟨rfl,hw⟩;obtain rfl:wa=w1:=hw.symm;clear hwa;go_wp2_with fail;refine wp_region_held_drew (S:=λ w' =>Fr (λ _=>False) wa.drew w') (by kernel_rfl) (Fr.refl _ _) (λ hHeld=> ?_);clear hHeld;refine tA 0 (some 13) rfl (Fr.refl _ _) ?_;refine tA 1 (some 14) rfl (Fr.refl _ _) ?_;refine tA 2 (some 15) rfl (Fr.refl _ _) ?_;refine tL 3 (some 16) (v:=(.agg (arV A C o sl e).toArray)) rfl ?ycd3 (Fr.refl _ _) ?rcd3
 case ycd3=>
  intro wq hSw;exact step_loadMid17 rfl rfl (λ j u hu=>hSw.cell_some (L0.out.area j u hu) (λ h=>h)) Tryz.underlying82 rfl (size_area A C o sl e)
 try simp only [Act.put,sA,sB,sC]
 refine tL 4 (some 17) (v:=(.agg v.vals.toArray)) rfl ?ycd4 (Fr.refl _ _) ?rcd4
 case ycd4=>
  intro wq hSw;exact step_loadRe rfl rfl (show ReB wq w.heap.size v.st v.A v.cs.length v.c from hSw.row_some Q0.out (λ h=>h))
 try simp only [Act.put,sA,sB,sC]
 refine rW 5 (some 18) rfl λ K hK=> ?_
 go_simp;refine(HC.out wa.drew (Below.drew B0.out)).mono ?_;rintro e' w2 ⟨g,q,rfl,hg,hb2,hgn⟩;have hfr:Fr (λ _=>False) wa.drew w2:=Fr.of_below hb2;go_wp2_with fail;refine hK.out _ _ hfr (λ hHeld=> ?_);clear hK K hHeld
 try simp only [Act.put,sA,sB,sC]
 refine wpAnyH_re (S':=λ w' =>Fr (λ _=>False) w2 w') (λ w' h=>hfr.trans h) ?_;clear hfr;refine tA 6 (some 12) rfl (Fr.refl _ _) ?_;refine tA 7 (some 19) rfl (Fr.refl _ _) ?_;refine tA 8 (some 20) rfl (Fr.refl _ _) ?_;refine tA 9 (some 5) rfl (Fr.refl _ _) ?_;refine tA 10 (some 6) rfl (Fr.refl _ _) ?_;refine tD ?_;have B2:=qH ((Below.drew B0.out).trans (hb2.mono (Below.drew B0.out).size));have hbw:Below wa.heap.size wa w2:=(Below.drew (Below.refl _ _)).trans hb2;obtain⟨z,hz⟩:∃z,z=(cut18 k v.x).length:=⟨_,rfl⟩;obtain rfl:z=q:=by have:=hg.gr.len;rw [hz];exact this
 rw [<-hz] at hn;have HLF:=qH (lleft_any (L0.out.later hbw) hu hs);have hlt:((sl-u:Nat):Int)<(z:Int):=by omega
 clear hb2 hg hgn hbw hz;go_wp2_with fail;refine HLF.out.mono ?_;clear HLF;rintro e' w3 ⟨rfl,hb3⟩;have B3:=qH (B2.out.trans (hb3.mono B2.out.size));clear hb3;go_wp2_with fail;go_ret;exact⟨rfl,B3.out⟩
end
end
section
open Go Go.RowKit Go.Proofs
def OnEnd (K:World->Prop):Exit->Act->World->Prop
 | .normal,_,W=>K W
 |_,_,_=>False
theorem below_steps {W W':World}(h:Below W.heap.size W W'):W.grownBy W' none:=⟨h.os,h.tape,h.output,h.size,λ k hk _=>h.block k hk⟩
theorem wp_range18 {P:Program}{α:Type}{g:Operand}{ps:Array Tmp}{assign body:Code}{Q:Exit->Act->World->Prop}{a:Act}{w:World}{gf:Nat}{lb:Array Value}
  (hg:a.eval g= .func (.func gf) #[] lb)(eg:∀args w,(callFunc gf args).run P w= .ok (.enter gf args) w)
  {encs:α->Array Value}{S:List α->Prop}{H:World->Prop}{X:α->World->World->Prop}{Nb:Nat}
  (hit:∀(l:Nat) (J:List α->World->Prop) (W:World),(∀s A B,J s A->Below A.heap.size A B->J s B)->(∀s A,J s A->H A)->
   (∀pre x W0 W1,pre.length<Nb->J pre W0->J pre W1->X x W0 W1->YieldAt Fence.wide 0 P l (encs x) W1 λ e W' =>e= .returned (.bool true)∧J (pre ++ [x]) W')->
   J [] W->Calls P gf (#[.func (.yield l) #[] #[]] ++ lb) W λ e W' =>(∃v,e= .returned v)∧∃xs,S xs∧J xs W')
  (hps:∀x,(encs x).size=ps.size)(I:List α->World->Prop)(hI:OwnFrom w.heap.size I)(hX:∀W0,OwnFrom w.heap.size λ x=>X x W0)(hH:∀s A,I s A->H A)(h0:I [] w)(a₁:α->Act)
  (hassign:∀(l:Nat) (x:α) (W:World) (K:Act->World->Prop),K (a₁ x) W->
   assign.wpIn (Fence.wide.inRound l) 0 P (Exit.then K (λ _ _ _=>False)) {tmps:=(ps.zip (encs x)).foldl (λ t (p,v)=>t.setIfInBounds p v) a.tmps,defers:= []} W)
  (hbody:∀(l:Nat) (pre:List α) (x:α) (W0 W:World),pre.length<Nb->I pre W0->I pre W->X x W0 W->body.wpIn (Fence.wide.inRound l) 0 P (OnEnd λ W' =>KeepsFrom w.heap.size W W' ∧I (pre ++ [x]) W') (a₁ x) W)
  (hdone:∀(D:Nat) (xs:List α) (W:World),w.heap.size<=D->S xs->I xs W->W.heap[D]? =some (.deferred (some []))->Q .normal {a with defers:={target:= .collected D,args:= #[]}::a.defers} W):
  (Code.rangeFunc g ps assign body).wp P Q a w:=by
 refine(wpIn_wide (n:=0)).1 (wpIn_rangeFunc λ fn _=> ?_);obtain⟨L,hL⟩:∃L:LoopState->Obj,L=λ st=> .loop {state:=st,pending:=none,fn,tmps:=a.tmps,params:=ps,assign,body,defers:=w.heap.size}:=⟨_,rfl⟩
 obtain⟨W1,hW1⟩:∃W1,W1=(w.alloc (.deferred (some []))).alloc (L .ready):=⟨_,rfl⟩;have r1:W1.heap[w.heap.size+1]? =some (L .ready):=by
  have:=World.alloc_heap_new (w.alloc (.deferred (some []))) (L .ready)
  rwa [World.size_alloc,<-hW1] at this
 have d1:W1.heap[w.heap.size]? =some (.deferred (some [])):=by
  rw [hW1];exact(Below.heap_alloc _ _ _ (by simp)).trans (World.alloc_heap_new w _)
 have i1:I [] W1:=by rw [hW1];exact hI.alloc _ (hI.alloc _ h0)
 have stay:∀{A B:World} {k:Nat} {o:Obj},Below A.heap.size A B->A.heap[k]? =some o->B.heap[k]? =some o:=λ hb h=>(hb.block _ (Array.getElem?_eq_some_iff.1 h).1).trans h
 have nc:∀st,(L st).isCells=false:=λ st=>by rw [hL];rfl
 refine⟨w.heap.size+1, [{target:= .collected w.heap.size,args:= #[]}],W1,{target:= .fn (.func gf) lb,args:= #[.func (.yield (w.heap.size+1)) #[] #[]]},W1,gf, #[.func (.yield (w.heap.size+1)) #[] #[]] ++ lb,W1, ?_, ?_,λ _ _=>trivial, ?_,λ h=>(by cases h),callsIn_wide.2 ?_⟩
 ·rw [hW1,hL]
  exact run_enterLoop_outer _ _ _ _ _
 ·simp only [resolve,hg]
  simp [go_sem]
 ·simp [invoke,go_sem,eg]
 refine(hit (w.heap.size+1) (λ pre W=>I pre W∧W.heap[w.heap.size+1]? =some (L .ready)∧W.heap[w.heap.size]? =some (.deferred (some []))) W1
  (λ s A B h hb=>⟨hI s A B none h.1 (below_steps hb) (λ r e=>(by cases e)),stay hb h.2.1,stay hb h.2.2⟩) (λ s A h=>hH s A h.1) (λ pre x W0 W hb h0 h hx=> ?_) ⟨i1,r1,d1⟩).mono ?_
 ·obtain⟨hi,hl,hd⟩:=h
  have hy:=run_yield (P:=P) (args:=encs x) (by rw [hL] at hl;exact hl) (hps x);refine⟨fn,_,assign,body,hy,roundIn_of_wpIn trivial (hassign _ x W _ ⟨_,run_beginRound (by rw [hL] at hl;exact hl) rfl, ?_⟩)⟩;have hlt:w.heap.size+1<W.heap.size:=(Array.getElem?_eq_some_iff.1 hl).1;have hb2:(W.putObj (w.heap.size+1) (L .busy)).heap[w.heap.size+1]? =some (L .busy):=World.putObj_heap_same hlt;have hd2:(W.putObj (w.heap.size+1) (L .busy)).heap[w.heap.size]? =some (.deferred (some [])):=(World.putObj_heap_other (by omega)).trans hd;rw [hL] at hb2 hd2;refine wpIn_mono (hbody _ pre x W0 _ hb h0.1 (hI.putObj _ hi (by omega) hl (nc _)) ((hX W0).putObj _ hx (by omega) hl (nc _))) ?_;rintro e a3 W3 hp
  cases e with
  |normal=>
   obtain⟨hk,hi3⟩:=hp;have hl3:=hk.same _ _ (by omega) hb2 rfl;refine⟨_,_,run_endRound none hl3,rfl,hI.putObj _ hi3 (by omega) hl3 rfl, ?_, ?_⟩
   ·rw [hL]
    exact World.putObj_heap_same (Array.getElem?_eq_some_iff.1 hl3).1
   ·exact(World.putObj_heap_other (by omega)).trans (hk.same _ _ (Nat.le_refl _) hd2 rfl)
  |ret=>exact hp.elim
  |exit id=>exact hp.elim
  |goto t=>exact hp.elim
  |panic ch=>exact hp.elim
  |outgrown=>exact hp.elim
 ·rintro e W2 ⟨⟨v,rfl⟩,xs,hS,hi,hl,hd⟩
  have hl':=hl;rw [hL] at hl';exact⟨none,_,run_endLoop hl' (by simp),hdone _ xs _ (Nat.le_refl _) hS (hI.putObj _ hi (by omega) hl' rfl) ((World.putObj_heap_other (by omega)).trans hd)⟩
end
section
open Go.RowKit Go.Proofs
set_option maxRecDepth 20000
set_option maxHeartbeats 3200000
structure Pc18 where
 A:Option Addr
 c:Nat
 b:List UInt8
def Pc18.val (x:Pc18):Value:= .slice x.A x.b.length x.c
def Pc18.X (x:Pc18)(W0 W:World):Prop:=Sl W 1 x.A x.b.length x.c (cells x.b)∧(∀b o,0<x.b.length->x.A=some ⟨b,o,none⟩->W0.heap.size<=b)∧∀p v,W0.cell? p=some v->W.cell? p=some v
theorem texts1_walk {H:World->Prop}{A C o sl e Bn:Nat}{R:List (List UInt8)}(l:Nat)(J:List Pc18->World->Prop)(W:World)
  (ho:o<=600)(hs:sl<=64)(he:e<1099511627776)(hR:R.length<=sl)
  (hget:∀V i,H V->i<sl->i<=R.length->Calls Tryz.prog 113 #[.pointer (some ⟨A,0,none⟩), .pointer (some ⟨C,0,none⟩),nmV o e i] V λ e' V' =>(∃b A2 c2,R[i]? =some b∧e' = .returned (.tuple #[.slice A2 b.length c2, .int .i64 0])∧NewB V A2 b.length c2 b V')∨(R.length=i∧∃A2 n2 c2,e' = .returned (.tuple #[.slice A2 n2 c2, .int .i64 130])∧Below V.heap.size V V'))
  (hJ:∀s A B,J s A->Below A.heap.size A B->J s B)(hH:∀s V,J s V->H V∧V.rangeAt Bn 0 (arV A C o sl e))
  (hY:∀pre (x:Pc18) W0 W1,pre.length<65->J pre W0->J pre W1->x.X W0 W1->YieldAt Fence.wide 0 Tryz.prog l #[x.val] W1 λ e' W' =>e' = .returned (.bool true)∧J (pre ++ [x]) W')
  (h0:J [] W):Calls Tryz.prog 112 #[.func (.yield l) #[] #[], .pointer (some ⟨Bn,0,none⟩)] W λ e' W' =>(∃v,e' = .returned v)∧∃ys,ys.map Pc18.b=R∧J ys W':=by
 have JJ:=qH hJ;have HH:=qH hH;have YY:=qH hY;have GG:=qH hget;have J0:=qH h0;have q3:=(hH _ _ h0).2 3 _ rfl;rw [Nat.zero_add] at q3;clear hJ hH hY hget h0;go_enter Tryz.func112,Tryz.ntmps112;go_wp2_with fail;go_loopw [8] (λ iv wr=>∃(i:Nat) (pre:List Pc18),iv= .int .i64 (i:Int)∧i<=R.length∧pre.map Pc18.b=R.take i∧J pre wr) (λ iv _=>sl-(intOf iv).toNat)
 case atStart=>exact⟨0, [],rfl,by omega,by simp,J0.out⟩
 case round=>
  obtain⟨i,pre,rfl,hi,hpre,hj⟩:=hrel;have PR:=qH hpre;have JP:=qH hj;clear hpre hj q3
  by_cases hlt:i<sl
  ·have hii:(i:Int)<(sl:Int):=by omega
   have RG:=qH (HH.out _ _ JP.out).2;go_wp2_with fail;refine wp_region_held_drew (S:=λ w' =>Fr (λ _=>False) wr.drew w') (by kernel_rfl) (Fr.refl _ _) (λ hHeld=> ?_);clear hHeld;refine tA 0 (some 12) rfl (Fr.refl _ _) ?_;refine tL 1 (some 13) (v:= ?vct1) rfl ?yct1 (Fr.refl _ _) ?rct1
   case yct1=>
    intro wq hSw
    (try dsimp only at hSw)
    have hc:=hSw.cell_some ((HH.out _ _ JP.out).2 0 _ rfl) (λ h=>h);rw [Nat.zero_add] at hc;go_simp<;>with_reducible rfl
   try simp only [Act.put,sA,sB,sC]
   refine tA 2 (some 14) rfl (Fr.refl _ _) ?_;refine tL 3 (some 15) (v:= ?vct3) rfl ?yct3 (Fr.refl _ _) ?rct3
   case yct3=>
    intro wq hSw
    (try dsimp only at hSw)
    have hc:=hSw.cell_some ((HH.out _ _ JP.out).2 1 _ rfl) (λ h=>h);rw [Nat.zero_add] at hc;go_simp<;>with_reducible rfl
   try simp only [Act.put,sA,sB,sC]
   refine tL 4 (some 16) (v:=(.agg (arV A C o sl e).toArray)) rfl ?yct4 (Fr.refl _ _) ?rct4
   case yct4=>
    intro wq hSw;exact step_loadMid17 rfl rfl (λ j u hu=>hSw.cell_some (RG.out j u hu) (λ h=>h)) Tryz.underlying82 rfl (size_area A C o sl e)
   try simp only [Act.put,sA,sB,sC]
   refine tA 5 (some 17) rfl (Fr.refl _ _) ?_;refine rW 6 (some 18) rfl λ K hK=> ?_
   go_simp;refine(lname_any A C o sl e i ho (by omega) he wr.drew).mono ?_;rintro e' w1 ⟨rfl,hb1⟩;have hfr:Fr (λ _=>False) wr.drew w1:=Fr.of_below hb1;go_wp2_with fail;refine hK.out _ _ hfr (λ hHeld=> ?_);clear hK K hHeld
   try simp only [Act.put,sA,sB,sC]
   refine wpAnyH_re (S':=λ w' =>Fr (λ _=>False) w1 w') (λ w' h=>hfr.trans h) ?_;clear hfr;refine rW 7 (some 19) rfl λ K hK=> ?_
   go_simp;have hbw1:Below wr.heap.size wr w1:=(Below.drew (Below.refl _ _)).trans hb1;have J1:=qH (JJ.out _ _ _ JP.out hbw1);refine(GG.out w1 i (HH.out _ _ J1.out).1 hlt hi).mono ?_;rintro e' w2 hg0;obtain⟨er,A2,n2,c2,rfl,hb2,hgot⟩:∃(er:Int) (A2:Option Addr) (n2 c2:Nat),e' = .returned (.tuple #[.slice A2 n2 c2, .int .i64 er])∧Below w1.heap.size w1 w2∧((er=0∧∃b,R[i]? =some b∧n2=b.length∧NewB w1 A2 b.length c2 b w2)∨(er=130∧R.length=i)):=by
    rcases hg0 with ⟨b,A2,c2,h1,h2,h3⟩|⟨h1,A2,n2,c2,h2,h3⟩
    ·exact⟨0,A2,_,c2,h2,h3.2.1, .inl ⟨rfl,b,h1,rfl,h3⟩⟩
    ·exact⟨130,A2,n2,c2,h2,h3, .inr ⟨rfl,h1⟩⟩
   clear hg0;have hfr:Fr (λ _=>False) w1 w2:=Fr.of_below hb2;go_wp2_with fail;refine hK.out _ _ hfr (λ hHeld=> ?_);clear hK K hHeld
   try simp only [Act.put,sA,sB,sC]
   refine wpAnyH_re (S':=λ w' =>Fr (λ _=>False) w2 w') (λ w' h=>hfr.trans h) ?_;clear hfr;refine tA 8 (some 11) rfl (Fr.refl _ _) ?_;refine tA 9 (some 20) rfl (Fr.refl _ _) ?_;refine tA 10 (some 21) rfl (Fr.refl _ _) ?_;refine tA 11 (some 4) rfl (Fr.refl _ _) ?_;refine tA 12 (some 5) rfl (Fr.refl _ _) ?_;refine tD ?_;have hbw2:Below wr.heap.size wr w2:=hbw1.trans (hb2.mono hbw1.size);have J2:=qH (JJ.out _ _ _ JP.out hbw2)
   rcases hgot with ⟨rfl,b,hb,rfl,hnb⟩|⟨rfl,hRi⟩
   ·obtain⟨hs2,_,hn2⟩:=hnb
    have hXX:(Pc18.mk A2 c2 b).X wr w2:=⟨hs2,λ q o' h1 h2=>Nat.le_trans hbw1.size (hn2 q o' h1 h2),λ p v hp=>(hbw2.cell (World.block_lt_of_cell? wr _ hp)).trans hp⟩;have HB:=qH hb;have hpl:pre.length<65:=by
     have h1:=congrArg List.length PR.out;rw [List.length_map,List.length_take] at h1;omega
    obtain⟨fn,tmps,assign,body,hy,hround⟩:=YY.out pre ⟨A2,c2,b⟩ wr w2 hpl JP.out J2.out hXX;have hir:i<R.length:=(List.getElem?_eq_some_iff.1 hb).1;clear hb1 hb2 hbw1 hbw2 hs2 hn2 hXX hb;unfold Pc18.val at hy;dsimp only at hy;have HY:=qH hy;have HR:=qH hround;clear hy hround;go_step;go_step;go_step;refine(wpIn_wide (n:=0)).1 ?_;have hy:=HY.out
    gi_wp2
    refine⟨rfl,HR.out.mono ?_⟩;rintro e' w3 ⟨rfl,hj3⟩;have J3:=qH hj3;clear hy hj3
    gi_wp2
    go_wp2_with fail;go_roundw
    case rel=>
     refine⟨i+1,pre ++ [⟨A2,c2,b⟩],by go_num,by omega, ?_,J3.out⟩;rw [List.map_append,PR.out,List.map_cons,List.map_nil,List.take_add_one,HB.out]
     rfl
    case measure=>simp [intOf];omega
   ·clear hb1 hb2 hbw1 hbw2
    go_wp2_with fail;refine bodyPost_ret (results_none rfl _ _ _) rfl ?_;exact⟨⟨_,rfl⟩,pre,by rw [PR.out,List.take_of_length_le (by omega)],J2.out⟩
  ·obtain rfl:sl=i:=by omega
   go_wp2_with fail;go_end0;exact⟨⟨_,rfl⟩,pre,by rw [PR.out,List.take_of_length_le (by omega)],JP.out⟩
end
section
open Go.RowKit Go.Proofs
set_option maxRecDepth 20000
set_option maxHeartbeats 3200000
theorem Chs.frN {w w':World}{A:Option Addr}{n c H:Nat}{vs:List CvF}{U:Nat->Prop}(h:Chs w A n c vs)(hn:NewC H A vs)(hf:Fr U w w')(hU:∀b,U b->b<H):Chs w' A n c vs:=
 ⟨h.len,h.cap,h.top,λ i v hv=>by
  obtain⟨b,o,e,h1,h2⟩:=h.cell i v hv;exact⟨b,o,e,λ j u hu=>hf.cell_some (h1 j u hu) (λ q=>by have:=hU b q;have:=hn.1 b o e;omega),Sl.fr h2 hf (λ b o h0 e q=>by have:=hU b q;have:=hn.2 v (List.mem_of_getElem? hv) b o h0 e;omega)⟩⟩
def OffR (A:Option Addr)(w:World)(v:RvF):Prop:=∀W,Fr (Bk A) w W->v.Ok W
theorem OffR.ok {A:Option Addr}{w:World}{v:RvF}(h:OffR A w v):v.Ok w:=h w (Fr.refl _ _)
theorem OffR.later {A:Option Addr}{w w':World}{v:RvF}(h:OffR A w v)(hb:Below w.heap.size w w'):OffR A w' v:=λ W hf=>h W ((Fr.of_below hb:Fr (Bk A) w w').trans hf)
theorem OffR.app {A A':Option Addr}{w w':World}{v:RvF}(h:OffR A w v)(hf:Fr (Bk A) w w')(hA:A' =A∨A' =some ⟨w.heap.size,0,none⟩):OffR A' w' v:=λ W hg=>by
 rcases hA with e|e
 ·subst e
  exact h W (hf.trans hg)
 ·refine h W (hf.intoN hg λ b hb=> .inr ?_)
  obtain⟨o,hb⟩:=hb;rw [e] at hb;injection hb with hb
  injection hb with hb _ _
  omega
theorem lrecords_any (A:Option Addr)(n c:Nat)(rs:List (List UInt8))(w:World)(h:Gr w A n c rs)(hb:rs.flatten.length<=1000000)(hn:n<=1000)(hN:Nt w):
  Calls Tryz.prog 73 #[.slice A n c] w λ e' w' =>∃A' c' vs,e' = .returned (.tuple #[.slice A' vs.length c', .int .i64 ((repF rs).2:Int)])∧Rcs w' A' vs.length c' vs∧vs.map RvF.x=(repF rs).1∧Below w.heap.size w w':=by
 have HH:=qH h;have NN:=qH hN;have HB:=qH hb;obtain⟨ib,hb0,hb1,hb2,hb3⟩:=info_parts info_rec18;have Ib0:=qH hb0;have Ib1:=qH hb1;have Ib2:=qH hb2;have Ib3:=qH hb3;clear h hb hN hb0 hb1 hb2 hb3;go_enter Tryz.func73,Tryz.ntmps73;go_wp2_with fail;go_loopg [4,5] (n+1) (λ gk tv mv wr=>∃(m q:Nat) (acc:List RvF) (A4:Option Addr) (c4:Nat),tv= .slice A4 q c4∧mv= .int .i64 (m:Int)∧m<=n∧n-m<gk∧q<=m∧acc.length=q∧Rn wr A4 42 2 q c4 (acc.flatMap RvF.vals)∧(∀b,Bk A4 b->w.heap.size<=b)∧(∀v∈acc,OffR A4 wr v)∧Below w.heap.size w wr∧acc.map RvF.x ++(repF (rs.drop m)).1=(repF rs).1∧m +(repF (rs.drop m)).2=(repF rs).2)
 case atStart=>exact⟨0,0, [],none,0,rfl,rfl,by omega,by omega,by omega,rfl, .inl ⟨rfl,rfl,rfl,rfl⟩,λ b hb=>(by obtain⟨o,hb⟩:=hb;cases hb),λ v hv=>(by cases hv),Below.refl _ _,rfl,by rw [Nat.zero_add];rfl⟩
 case round=>
  obtain⟨G,hG⟩:∃x,x=gk:=⟨_,rfl⟩;subst hG;obtain⟨m,q,acc,A4,c4,htv,hmv,hm,hgk,hqm,hal,hrn,hab,hof,hbe,h1,h2⟩:=hrel;subst htv hmv;have hcl:=HH.out.capLe;have RN:=qH hrn;have AB:=qH hab;have OF:=qH hof;have BE:=qH hbe;have AL:=qH hal;clear hrn hab hof hal
  by_cases hcm:c=m
  ·obtain rfl:n=m:=by omega
   obtain rfl:n=c:=by omega
   have hd:rs.drop n= []:=List.drop_eq_nil_of_le (by rw [HH.out.len];exact Nat.le_refl _);have hj:joinF []=([],0,170):=rfl;have hz:repF []=([],0):=rfl;rw [hd,hz,List.append_nil] at h1;rw [hd,hz,Nat.add_zero] at h2;have hjo:=join17_any A 0 0 [] wr ⟨⟨[],Sl.empty wr 1 A 0 (by decide),λ i r h=>by simp at h⟩,rfl⟩ (by decide) (by decide) (NN.out.keep hbe);rw [hj] at hjo;have K1:=qH h1;have K2:=qH h2;clear hbe h1 h2 hd hj hz hcl hcm;go_wp2_with fail;refine hjo.mono ?_;clear hjo;rintro e' w1 ⟨A6,c6,rfl,hs6,hb6,hl6⟩;have B6:=qH (BE.out.trans (hb6.mono BE.out.size));have R6:=qH (RN.out.later hb6);have O6:=qH (show ∀v∈acc,OffR A4 w1 v from λ v hv=>(OF.out v hv).later hb6);clear hs6 hb6 hl6;go_wp2_with fail;go_ret2;have hq:=AL.out;subst hq;rw [<-K2.out];exact⟨A4,c4,acc,rfl,Rcs.of_rn R6.out rfl (λ v hv=>(O6.out v hv).ok),K1.out,B6.out⟩
  ·have hgr:=(HH.out.later hbe).from17 m hm
   rw [if_neg hcm] at hgr;have hmn:(m:Int)<=(n:Int):=by omega
   have hcz:¬(c:Int)=(m:Int):=by omega
   have hjo:=join17_any _ _ _ _ wr hgr (by have:=flat_drop rs m;have:=HB.out;omega) (by omega) (NN.out.keep hbe);have hmany:=joinF_many (l:=rs.drop m);have hfl:=flat_drop rs m;have hjl:=joinL_len (rs.drop m) 0 true [] 0;rw [show joinL 0 true [] 0 (rs.drop m)=joinF (rs.drop m) from rfl] at hjl;have hst:=repF_stop (l:=rs.drop m);have hno:=repF_none (l:=rs.drop m);have hyes:=repF_step (l:=rs.drop m);obtain⟨J,hJ⟩:∃x,x=joinF (rs.drop m):=⟨_,rfl⟩;rw [<-hJ] at hjo hmany hjl hst hno hyes;obtain⟨tx,jn,er⟩:=J;dsimp only at hjo hmany hjl hst hno hyes;rw [List.length_nil,Nat.zero_add] at hjl;have htx:tx.length<=1000000:=by have:=HB.out;omega
   rw [List.length_drop,HH.out.len,List.drop_drop] at *;clear hJ hgr hjl hfl hcl
   by_cases he:er=0
   ·subst he
    have hmany:=hmany rfl;have hno:=hno rfl;have hyes:=hyes rfl;clear hst;have hgx:=λ W A6 c6 (hs:Sl W 1 A6 tx.length c6 (cells tx))=>getRecord17n A6 tx.length c6 tx W hs htx
    obtain⟨G3,hG3⟩:∃x,x=getR17 tx:=⟨_,rfl⟩;rw [<-hG3] at hno hyes;simp only [<-hG3] at hgx;obtain⟨g1,g2,g3⟩:=G3;dsimp only at hno hyes hgx;clear hG3
    by_cases hg:g3=0
    ·subst hg
     have hyes:=hyes rfl;rw [hyes] at h1 h2;have K1:=qH h1;have K2:=qH h2;have GX:=qH hgx;clear hbe h1 h2 hno hyes hgx;go_wp2_with fail;refine hjo.mono ?_;clear hjo;rintro e' w1 ⟨A6,c6,rfl,hs6,hb6,hl6⟩;have B6:=qH (BE.out.trans (hb6.mono BE.out.size));have R6:=qH (RN.out.later hb6);have O6:=qH (show ∀v∈acc,OffR A4 w1 v from λ v hv=>(OF.out v hv).later hb6);have S6:=qH hs6;clear hs6 hb6 hl6;go_wp2_with fail;refine(GX.out w1 A6 c6 S6.out).mono ?_;rintro e' w2 ⟨CA,cc,vs,rfl,hvs,hch,hb7,hnc⟩;obtain⟨v,hv⟩:∃v:RvF,v=⟨g1,CA,cc,vs⟩:=⟨_,rfl⟩;have hvx:v.x=(g1,g2):=by rw [hv,<-hvs];rfl
     have hvv:v.vals.toArray= #[.int .u64 (g1:Int), .slice CA vs.length cc]:=by rw [hv];rfl
     have hov:OffR A4 w2 v:=λ W hf=>by
      rw [hv];exact hch.frN hnc hf (λ b hb=>R6.out.lt hb)
     obtain⟨w3,hw3⟩:∃x,x=w2.alloc (.cells #[.int .u64 (g1:Int), .slice CA vs.length cc] 42):=⟨_,rfl⟩;have hb8:Below w2.heap.size w2 w3:=by rw [hw3];exact(Below.refl _ _).alloc (Nat.le_refl _) _
     have hq3:ReB w3 w2.heap.size g1 CA vs.length cc:=by rw [hw3];exact ReB.new
     have B8:=qH ((B6.out.trans (hb7.mono B6.out.size)).trans (hb8.mono (Nat.le_trans B6.out.size hb7.size)));have R8:=qH (((R6.out.later hb7).later hb8).later (rec_below w3 v));have O8:=qH (show ∀v' ∈acc,OffR A4 w3 v' from λ v' hv' =>((O6.out v' hv').later hb7).later hb8);have V8:=qH (hov.later hb8);have Q8:=qH hq3;have HV:=qH hvv;have HX:=qH hvx;have HW:=qH hw3;have hq1000:q<=1000:=by omega
     clear hv hvx hvv hov hb7 hb8 hq3 hvs hch hnc hw3;go_wp2_with (first
      |(rw [<-HW.out])
      |(refine at_dst17 (d:=32) ?_;refine wpList_step17 (o:=⟨some 32,_,_,_,_,_⟩) (by rfl) _ _ (step_loadRe rfl rfl Q8.out) ?_;rw [<-HV.out])
      |(refine at_dst17 (d:=33) ?_;refine wpList_buildSlice (o:=⟨some 33,_,_,_,_,_⟩) rfl 59 42 1 #[(0, .tmp 32)] rfl v.vals.toArray ib (.agg #[.int .u64 0, .slice none 0 0]) Tryz.underlying59 Ib0.out Ib1.out (by rw [Ib2.out];decide) (by rw [Ib2.out];decide) (by rw [Ib2.out];exact fill2a _ _ rfl) ?_)
      |(at_builtin;refine wpList_append_rn (o:=⟨some 34,_,_,_,_,_⟩) rfl (.tmp 31) (.tmp 33) 59 59 rfl ib (.agg #[.int .u64 0, .slice none 0 0]) 32 Tryz.underlying59 Ib0.out Ib1.out Ib2.out Ib3.out rfl (by decide) rfl R8.out _ 1 v.vals rfl ((Sl.made w3 v.vals.toArray 42 2 1 rfl (by decide)).src Tryz.underlying59 (by decide) (one_rec18 v)) (by unfold maxLen;omega) (by omega) ?_))
     intro A7 c7 w4 hrn4 hfb4 hor4;have hsz:w3.heap.size+1=(w3.alloc (.cells v.vals.toArray 42)).heap.size:=by simp
     rw [hsz] at hor4;have hba:Below w.heap.size w (w3.alloc (.cells v.vals.toArray 42)):=B8.out.trans ((rec_below w3 v).mono B8.out.size);have B9:=qH (hba.trans (hfb4.below hba.size (λ b hb=>AB.out b hb)));have R9:=qH hrn4;have AB9:=qH (show ∀b,Bk A7 b->w.heap.size<=b from λ b hb=>by
      rcases hor4 with e4|e4
      ·exact AB.out b (e4▸hb)
      ·rw [e4] at hb
       obtain⟨o4,hb⟩:=hb;injection hb with hb
       injection hb with hb _
       have:=hba.size;omega)
     have O9:=qH (show ∀v' ∈acc ++ [v],OffR A7 w4 v' from λ v' hv' =>by
      rcases List.mem_append.1 hv' with h|h
      ·exact((O8.out v' h).later (rec_below w3 v)).app hfb4 hor4
      ·rw [List.mem_singleton] at h
       subst h;exact(V8.out.later (rec_below w3 v')).app hfb4 hor4)
     have HJ:=qH hmany;clear hsz hba hfb4 hor4 hrn4 hmany hcz hcm;go_wp2_with fail;go_roundg (G-1)
     case measure=>have:=HJ.out;omega
     case rel=>
      refine⟨m+jn,q+1,acc ++ [v],A7,c7,rfl,by have:=HJ.out;go_num,by have:=HJ.out;omega,by have:=HJ.out;omega,by have:=HJ.out;omega,by rw [List.length_append,AL.out];rfl, ?_,AB9.out,O9.out,B9.out, ?_, ?_⟩
      ·rw [List.flatMap_append,List.flatMap_cons,List.flatMap_nil,List.append_nil]
       exact R9.out
      ·rw [List.map_append,List.map_cons,List.map_nil,HX.out,List.append_assoc]
       exact K1.out
      ·have:=K2.out
       omega
    ·have hno:=hno hg
     rw [hno,List.append_nil] at h1;rw [hno,Nat.add_zero] at h2;have hgi:¬(g3:Int)=0:=by omega
     have K1:=qH h1;have K2:=qH h2;have GX:=qH hgx;clear hbe h1 h2 hno hyes hgx hmany;go_wp2_with fail;refine hjo.mono ?_;clear hjo;rintro e' w1 ⟨A6,c6,rfl,hs6,hb6,hl6⟩;have B6:=qH (BE.out.trans (hb6.mono BE.out.size));have R6:=qH (RN.out.later hb6);have O6:=qH (show ∀v∈acc,OffR A4 w1 v from λ v hv=>(OF.out v hv).later hb6);have S6:=qH hs6;clear hs6 hb6 hl6;go_wp2_with fail;refine(GX.out w1 A6 c6 S6.out).mono ?_;rintro e' w2 ⟨CA,cc,vs,rfl,hvs,hch,hb7,hnc⟩;obtain⟨w3,hw3⟩:∃x,x=w2.alloc (.cells #[.int .u64 (g1:Int), .slice CA vs.length cc] 42):=⟨_,rfl⟩;have hb8:Below w2.heap.size w2 w3:=by rw [hw3];exact(Below.refl _ _).alloc (Nat.le_refl _) _
     have B8:=qH ((B6.out.trans (hb7.mono B6.out.size)).trans (hb8.mono (Nat.le_trans B6.out.size hb7.size)));have R8:=qH ((R6.out.later hb7).later hb8);have O8:=qH (show ∀v' ∈acc,OffR A4 w3 v' from λ v' hv' =>((O6.out v' hv').later hb7).later hb8);have HW:=qH hw3;clear hb7 hb8 hvs hch hnc hw3;go_wp2_with (rw [<-HW.out]);go_ret2;have hq:=AL.out;subst hq;rw [<-K2.out];exact⟨A4,c4,acc,rfl,Rcs.of_rn R8.out rfl (λ v hv=>(O8.out v hv).ok),K1.out,B8.out⟩
   ·have hst:=hst he
    rw [hst,List.append_nil] at h1;rw [hst,Nat.add_zero] at h2;have hez:¬(er:Int)=0:=by omega
    have K1:=qH h1;have K2:=qH h2;clear hbe h1 h2 hno hyes hst hmany;go_wp2_with fail;refine hjo.mono ?_;clear hjo;rintro e' w1 ⟨A6,c6,rfl,hs6,hb6,hl6⟩;have B6:=qH (BE.out.trans (hb6.mono BE.out.size));have R6:=qH (RN.out.later hb6);have O6:=qH (show ∀v∈acc,OffR A4 w1 v from λ v hv=>(OF.out v hv).later hb6);clear hs6 hb6 hl6;go_wp2_with fail;go_ret2;have hq:=AL.out;subst hq;rw [<-K2.out];exact⟨A4,c4,acc,rfl,Rcs.of_rn R6.out rfl (λ v hv=>(O6.out v hv).ok),K1.out,B6.out⟩
end
end Go.Proofs.YtmhejbihdghhaaaGreatDoor

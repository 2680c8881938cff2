/-
  Contracts of package clog's cut and Need (layer 18)
-/
import Derived.Test.YtmhejbihdghhaaaGreatDoorQcax
namespace Go.Proofs.YtmhejbihdghhaaaGreatDoor
set_option linter.unusedVariables false
section
open Go.RowKit Go.Proofs
set_option maxRecDepth 20000
set_option maxHeartbeats 3200000
section
variable {Rep:World->(Nat->Prop)->Nat->Dv->Prop}{w:World}{S:Nat->Prop}{A C k m F T N:Nat}{xs:List Dv}
def jp5 (k:Nat)(v:RvF)(w:World)(e':Ending)(w':World):Prop:=∃g c,e' = .returned (.tuple #[.slice (some ⟨g,0,none⟩) c c, .int .i64 0])∧Gm w' w.heap.size (some ⟨g,0,none⟩) c c (jaA k v.x)∧Below w.heap.size w w' ∧w.heap.size<=g
theorem jhm (v:RvF)(o sl e:Nat)(h:Cod w C k m F T)(hN:Nt w)(hv:v.Ok w)(hf:v.fit)(hr:okR v.x.2=true):
  Calls Tryz.prog 50 #[.agg (arV A C o sl e).toArray, .agg v.vals.toArray] w (jp5 k v w):=by
 have hk1:=h.k1;have hk2:=h.n255;have hsh:=jjP hr;obtain⟨wa,hwa⟩:∃x,x=(w.alloc (.cells (arV A C o sl e).toArray 82)).alloc (.cells v.vals.toArray 42):=⟨_,rfl⟩;have hb0:Below w.heap.size w wa:=by rw [hwa];exact((Below.refl _ _).alloc (Nat.le_refl _) _).alloc (by simp) _
 have hq:ReB wa (w.heap.size+1) v.st v.A v.cs.length v.c:=by
  rw [hwa];have h0:=ReB.new (w:=w.alloc (.cells (arV A C o sl e).toArray 82)) (st:=v.st) (A:=v.A) (n:=v.cs.length) (c:=v.c)
  rwa [show (w.alloc (.cells (arV A C o sl e).toArray 82)).heap.size=w.heap.size+1 from by simp] at h0
 have hra:wa.rangeAt w.heap.size 0 (arV A C o sl e):=by
  rw [hwa];exact jbL (jec w A C o sl e) ((Below.refl _ _).alloc (Nat.le_refl _) _)
 have hp:=jhi v.st hf.1 v.A v.cs.length v.c v.cs wa (hv.below hb0) hr (λ c hc=>hf.2 c hc);have HN:=qH (hN.keep hb0);have HC:=qH (h.later hb0);have B0:=qH hb0;have Q0:=qH hq;have R0:=qH hra;have HA:=qH hwa;have HP:=qH hp;have HSH:=qH hsh;clear h hN hv hf hr hsh hwa hb0 hq hra hp;have hva:v.vals.toArray= #[.int .u64 (v.st:Int), .slice v.A v.cs.length v.c]:=rfl;rw [hva] at HA ⊢;unfold arV at HA ⊢;go_enter Tryz.func50,Tryz.ntmps50;have hwa:=HA.out.symm;go_wp2_with (first|(rw [hwa])|(refine jaj (d:=9) ?_;refine jad (o:=⟨some 9,_,_,_,_,_⟩) (by rfl) _ _ (jap rfl rfl Q0.out) ?_));refine HP.out.mono ?_;clear HP;rintro e' w1 ⟨A2,n2,c2,rfl,hs1,hb1⟩;have B1:=qH (B0.out.trans (hb1.mono B0.out.size));have S1:=qH hs1;have C1:=qH (HC.out.later hb1);have N1:=qH (HN.out.keep hb1);have R1:=qH (jbL R0.out hb1);have a1:=R1.out 1 _ rfl;rw [Nat.zero_add] at a1
 clear hs1 hb1 hwa;go_wp2_with fail;refine(jfB C1.out).mono ?_;rintro e' w2 ⟨rfl,hw⟩;obtain rfl:w1=w2:=hw.symm;have hln:n2=(jbk v.x).length:=by have:=S1.out.len;rw [jaa,Nat.mul_one] at this;exact this.symm
 have hcu:=jn9 A2 n2 c2 (jbk v.x) ((44*k:Nat):Int) (44*k-7) (by omega) (by omega) (by omega) w1 S1.out (by have:=HSH.out;omega) N1.out;have HCU:=qH hcu;clear hcu hln;go_wp2_with fail;refine HCU.out.mono ?_;clear HCU;rintro e' w3 ⟨g,q,rfl,hg,hb3,hg3⟩;have B3:=qH (B1.out.trans (hb3.mono B1.out.size));have G3:=qH (hg.lower B1.out.size);clear hg hb3;go_wp2_with fail;go_ret2;exact⟨g,q,rfl,G3.out,B3.out,by have:=B1.out.size;omega⟩
theorem jor (v:RvF)(o sl e:Nat)(hv:v.Ok w)(hr:okR v.x.2=false):
  Calls Tryz.prog 50 #[.agg (arV A C o sl e).toArray, .agg v.vals.toArray] w λ e' w' =>e' = .returned (.tuple #[.slice none 0 0, .int .i64 2])∧Below w.heap.size w w':=by
 obtain⟨wa,hwa⟩:∃x,x=(w.alloc (.cells (arV A C o sl e).toArray 82)).alloc (.cells v.vals.toArray 42):=⟨_,rfl⟩;have hb0:Below w.heap.size w wa:=by rw [hwa];exact((Below.refl _ _).alloc (Nat.le_refl _) _).alloc (by simp) _
 have hq:ReB wa (w.heap.size+1) v.st v.A v.cs.length v.c:=by
  rw [hwa];have h0:=ReB.new (w:=w.alloc (.cells (arV A C o sl e).toArray 82)) (st:=v.st) (A:=v.A) (n:=v.cs.length) (c:=v.c)
  rwa [show (w.alloc (.cells (arV A C o sl e).toArray 82)).heap.size=w.heap.size+1 from by simp] at h0
 have hp:=jip v.st v.A v.cs.length v.c v.cs wa (hv.below hb0) hr;have B0:=qH hb0;have Q0:=qH hq;have HA:=qH hwa;have HP:=qH hp;clear hv hr hwa hb0 hq hp;have hva:v.vals.toArray= #[.int .u64 (v.st:Int), .slice v.A v.cs.length v.c]:=rfl;rw [hva] at HA ⊢;unfold arV at HA ⊢;go_enter Tryz.func50,Tryz.ntmps50;have hwa:=HA.out.symm;go_wp2_with (first|(rw [hwa])|(refine jaj (d:=9) ?_;refine jad (o:=⟨some 9,_,_,_,_,_⟩) (by rfl) _ _ (jap rfl rfl Q0.out) ?_));refine HP.out.mono ?_;clear HP;rintro e' w1 ⟨rfl,hb1⟩;have B1:=qH (B0.out.trans (hb1.mono B0.out.size));clear hb1 hwa;go_wp2_with fail;go_ret2;exact⟨rfl,B1.out⟩
theorem jos (v:RvF){P o sl e u:Nat}(h:Cod w C k m F T)(hN:Nt w)(hl:LgB w P A C o sl e u)(hv:v.Ok w)(hf:v.fit)(hr:okR v.x.2=true):
  Calls Tryz.prog 15 #[.pointer (some ⟨P,0,none⟩), .agg v.vals.toArray] w λ e' w' =>e' = .returned (.int .i64 (((jaA k v.x).length:Nat)))∧Below w.heap.size w w':=by
 obtain⟨wa,hwa⟩:∃x,x=w.alloc (.cells v.vals.toArray 42):=⟨_,rfl⟩;have hb0:Below w.heap.size w wa:=by rw [hwa];exact(Below.refl _ _).alloc (Nat.le_refl _) _
 have hq:ReB wa w.heap.size v.st v.A v.cs.length v.c:=by rw [hwa];exact ReB.new
 have hcut:=λ W (hb:Below w.heap.size w W)=>jhm (A:=A) v o sl e (h.later hb) (hN.keep hb) (hv.below hb) hf hr
 have HC:=qH hcut;have B0:=qH hb0;have Q0:=qH hq;have L0:=qH (hl.later hb0);have HM:=qH (jbw (hl.later hb0));have HA:=qH hwa;have HF:=qH hf;clear h hN hl hv hf hwa hb0 hq hcut;have hva:v.vals.toArray= #[.int .u64 (v.st:Int), .slice v.A v.cs.length v.c]:=rfl;rw [hva] at HA ⊢;go_enter Tryz.func15,Tryz.ntmps15;have hwa:=HA.out.symm;go_wp2_with (rw [hwa]);refine HM.out.mono ?_;clear HM;rintro e' w1 ⟨rfl,hw⟩;obtain rfl:wa=w1:=hw.symm;clear hwa;go_wp2_with fail;refine wp_region_held_drew (S:=λ w' =>Fr (λ _=>False) wa.drew w') (by kernel_rfl) (Fr.refl _ _) (λ hHeld=> ?_);clear hHeld;refine tA 0 (some 11) rfl (Fr.refl _ _) ?_;refine tA 1 (some 12) rfl (Fr.refl _ _) ?_;refine tA 2 (some 13) rfl (Fr.refl _ _) ?_;refine tL 3 (some 14) (v:=(.agg (arV A C o sl e).toArray)) rfl ?ycnny3 (Fr.refl _ _) ?rcnny3
 case ycnny3=>
  intro wq hSw;exact jah rfl rfl (λ j u hu=>hSw.cell_some (L0.out.area j u hu) (λ h=>h)) Tryz.underlying82 rfl (ja5 A C o sl e)
 try simp only [Act.put,sA,sB,sC]
 refine tL 4 (some 15) (v:=(.agg v.vals.toArray)) rfl ?ycnny4 (Fr.refl _ _) ?rcnny4
 case ycnny4=>
  intro wq hSw;exact jap rfl rfl (show ReB wq w.heap.size v.st v.A v.cs.length v.c from hSw.row_some Q0.out (λ h=>h))
 try simp only [Act.put,sA,sB,sC]
 refine rW 5 (some 16) rfl λ K hK=> ?_
 go_simp;refine(HC.out wa.drew (Below.drew B0.out)).mono ?_;rintro e' w2 ⟨g,q,rfl,hg,hb2, -⟩;have hfr:Fr (λ _=>False) wa.drew w2:=Fr.of_below hb2;go_wp2_with fail;refine hK.out _ _ hfr (λ hHeld=> ?_);clear hK K hHeld
 try simp only [Act.put,sA,sB,sC]
 refine jac (S':=λ w' =>Fr (λ _=>False) w2 w') (λ w' h=>hfr.trans h) ?_;clear hfr;refine tA 6 (some 10) rfl (Fr.refl _ _) ?_;refine tA 7 (some 17) rfl (Fr.refl _ _) ?_;refine tA 8 (some 18) rfl (Fr.refl _ _) ?_;refine tA 9 (some 5) rfl (Fr.refl _ _) ?_;refine tA 10 (some 6) rfl (Fr.refl _ _) ?_;refine tD ?_;have B2:=qH ((Below.drew B0.out).trans (hb2.mono (Below.drew B0.out).size));obtain rfl:q=(jaA k v.x).length:=by have:=hg.gr.len;exact this.symm
 go_wp2_with fail;go_ret;exact⟨rfl,B2.out⟩
theorem jp6 (v:RvF){P o sl e u:Nat}(h:Cod w C k m F T)(hN:Nt w)(hl:LgB w P A C o sl e u)(hv:v.Ok w)(hf:v.fit)(hr:okR v.x.2=false):
  Calls Tryz.prog 15 #[.pointer (some ⟨P,0,none⟩), .agg v.vals.toArray] w λ e' w' =>e' = .returned (.int .i64 (0))∧Below w.heap.size w w':=by
 obtain⟨wa,hwa⟩:∃x,x=w.alloc (.cells v.vals.toArray 42):=⟨_,rfl⟩;have hb0:Below w.heap.size w wa:=by rw [hwa];exact(Below.refl _ _).alloc (Nat.le_refl _) _
 have hq:ReB wa w.heap.size v.st v.A v.cs.length v.c:=by rw [hwa];exact ReB.new
 have hcut:=λ W (hb:Below w.heap.size w W)=>jor (A:=A) (C:=C) v o sl e (hv.below hb) hr
 have HC:=qH hcut;have B0:=qH hb0;have Q0:=qH hq;have L0:=qH (hl.later hb0);have HM:=qH (jbw (hl.later hb0));have HA:=qH hwa;have HF:=qH hf;clear h hN hl hv hf hwa hb0 hq hcut;have hva:v.vals.toArray= #[.int .u64 (v.st:Int), .slice v.A v.cs.length v.c]:=rfl;rw [hva] at HA ⊢;go_enter Tryz.func15,Tryz.ntmps15;have hwa:=HA.out.symm;go_wp2_with (rw [hwa]);refine HM.out.mono ?_;clear HM;rintro e' w1 ⟨rfl,hw⟩;obtain rfl:wa=w1:=hw.symm;clear hwa;go_wp2_with fail;refine wp_region_held_drew (S:=λ w' =>Fr (λ _=>False) wa.drew w') (by kernel_rfl) (Fr.refl _ _) (λ hHeld=> ?_);clear hHeld;refine tA 0 (some 11) rfl (Fr.refl _ _) ?_;refine tA 1 (some 12) rfl (Fr.refl _ _) ?_;refine tA 2 (some 13) rfl (Fr.refl _ _) ?_;refine tL 3 (some 14) (v:=(.agg (arV A C o sl e).toArray)) rfl ?ycnnn3 (Fr.refl _ _) ?rcnnn3
 case ycnnn3=>
  intro wq hSw;exact jah rfl rfl (λ j u hu=>hSw.cell_some (L0.out.area j u hu) (λ h=>h)) Tryz.underlying82 rfl (ja5 A C o sl e)
 try simp only [Act.put,sA,sB,sC]
 refine tL 4 (some 15) (v:=(.agg v.vals.toArray)) rfl ?ycnnn4 (Fr.refl _ _) ?rcnnn4
 case ycnnn4=>
  intro wq hSw;exact jap rfl rfl (show ReB wq w.heap.size v.st v.A v.cs.length v.c from hSw.row_some Q0.out (λ h=>h))
 try simp only [Act.put,sA,sB,sC]
 refine rW 5 (some 16) rfl λ K hK=> ?_
 go_simp;refine(HC.out wa.drew (Below.drew B0.out)).mono ?_;rintro e' w2 ⟨rfl,hb2⟩;have hfr:Fr (λ _=>False) wa.drew w2:=Fr.of_below hb2;go_wp2_with fail;refine hK.out _ _ hfr (λ hHeld=> ?_);clear hK K hHeld
 try simp only [Act.put,sA,sB,sC]
 refine jac (S':=λ w' =>Fr (λ _=>False) w2 w') (λ w' h=>hfr.trans h) ?_;clear hfr;refine tA 6 (some 10) rfl (Fr.refl _ _) ?_;refine tA 7 (some 17) rfl (Fr.refl _ _) ?_;refine tA 8 (some 18) rfl (Fr.refl _ _) ?_;refine tA 9 (some 5) rfl (Fr.refl _ _) ?_;refine tA 10 (some 6) rfl (Fr.refl _ _) ?_;refine tD ?_;have B2:=qH ((Below.drew B0.out).trans (hb2.mono (Below.drew B0.out).size));go_wp2_with fail;go_ret;exact⟨rfl,B2.out⟩
end
end
section
open Go.RowKit Go.Proofs
set_option maxRecDepth 20000
set_option maxHeartbeats 3200000
theorem jjQ (A:Option Addr)(n c:Nat)(l:List RvF)(w:World)(h:Rcs w A n c l):
  Calls Tryz.prog 38 #[.slice A n c] w (jix w):=by
 have hlim:=h.cap;have hlim2:=h.top;unfold maxLen at hlim2;have H:=qH h;clear h;go_enter Tryz.func38,Tryz.ntmps38;go_wp2_with fail;go_loopw [3] (λ iv wr=>∃j:Nat,iv= .int .i64 (j:Int)∧j<=n∧Below w.heap.size w wr) (λ iv _=>n-(intOf iv).toNat)
 case atStart=>exact⟨0,rfl,by omega,Below.refl _ _⟩
 case round=>
  obtain⟨j,rfl,hj,hbe⟩:=hrel;have BE:=qH hbe;clear hbe
  by_cases hlt:j<n
  ·have hji:(j:Int)<(n:Int):=by omega
   by_cases h20:(j:Int)<20
   ·obtain⟨v,hv⟩:∃v,l[j]? =some v:=⟨_,List.getElem?_eq_getElem (by rw [H.out.len];exact hlt)⟩
    obtain⟨b,o,rfl,hcl,hok⟩:=(H.out.below BE.out).cell j v hv;have RG:=qH (jfV hcl);have OK:=qH hok;have hfw:=jiy 0 v.st v.A v.cs.length v.c v.cs wr hok;unfold jix at hfw;have FW:=qH hfw;clear hcl hok hv hfw;go_wp2_with (refine jaj (d:=17) ?_;refine jad (o:=⟨some 17,_,_,_,_,_⟩) (by rfl) _ _ (jah rfl rfl RG.out Tryz.underlying42 rfl (jb7 v)) ?_);refine FW.out.mono ?_;rintro e w1 ⟨β,rfl,hb1⟩;have B1:=qH (BE.out.trans (hb1.mono BE.out.size));clear hb1
    cases β
    ·go_wp2_with fail
     go_ret;exact⟨false,rfl,B1.out⟩
    ·go_wp2_with fail
     go_roundw
     case rel=>exact⟨j+1,by go_num,by omega,B1.out⟩
     case measure=>simp [intOf];omega
   ·go_wp2_with fail
    go_ret;exact⟨_,rfl,BE.out⟩
  ·obtain rfl:n=j:=by omega
   go_wp2_with fail;go_ret;exact⟨_,rfl,BE.out⟩
theorem jgC (A:Option Addr)(n c:Nat)(l:List RvF)(A2:Option Addr)(c2:Nat)(l2:List RvF)(w:World)(h:Rcs w A n c l)(h2:Rcs w A2 n c2 l2)(he:l2.map RvF.x=l.map RvF.x):
  Calls Tryz.prog 31 #[.slice A n c, .slice A2 n c2] w (jdB w):=by
 have hlim:=h.cap;have hlim2:=h.top;unfold maxLen at hlim2;have H:=qH h;have H2:=qH h2;have HE:=qH he;clear h h2 he;go_enter Tryz.func31,Tryz.ntmps31;go_wp2_with fail;go_loopw [5] (λ iv wr=>∃j:Nat,iv= .int .i64 (j:Int)∧j<=n∧Below w.heap.size w wr) (λ iv _=>n-(intOf iv).toNat)
 case atStart=>exact⟨0,rfl,by omega,Below.refl _ _⟩
 case round=>
  obtain⟨j,rfl,hj,hbe⟩:=hrel;have BE:=qH hbe;clear hbe
  by_cases hlt:j<n
  ·have hji:(j:Int)<(n:Int):=by omega
   obtain⟨v,hv⟩:∃v,l[j]? =some v:=⟨_,List.getElem?_eq_getElem (by rw [H.out.len];exact hlt)⟩;obtain⟨v2,hv2⟩:∃v,l2[j]? =some v:=⟨_,List.getElem?_eq_getElem (by rw [H2.out.len];exact hlt)⟩;have hvx:v2.x=v.x:=by
    have h1:(l2.map RvF.x)[j]? =some v2.x:=by rw [List.getElem?_map,hv2];rfl
    have h3:(l.map RvF.x)[j]? =some v.x:=by rw [List.getElem?_map,hv];rfl
    rw [HE.out,h3] at h1;exact(Option.some.inj h1).symm
   obtain⟨b,o,rfl,hcl,hok⟩:=(H.out.below BE.out).cell j v hv;obtain⟨b2,o2,rfl,hcl2,hok2⟩:=(H2.out.below BE.out).cell j v2 hv2;have RA:=qH (jfV hcl);have RB:=qH (jfV hcl2);have OA:=qH hok;have OB:=qH hok2;have hst:v2.st=v.st:=congrArg Prod.fst hvx;have hcs:v2.cs.map CvF.x=v.cs.map CvF.x:=congrArg Prod.snd hvx;have hln:v2.cs.length=v.cs.length:=by have:=congrArg List.length hcs;simpa using this
   have HCS:=qH hcs;have HVV:=qH (show v2.vals= [.int .u64 (v.st:Int), .slice v2.A v.cs.length v2.c] from by rw [RvF.vals,hst,hln]);have HO2:=qH (show Chs wr v2.A v.cs.length v2.c v2.cs from by rw [<-hln];exact hok2);clear hcl hcl2 hok hok2 hv hv2 hvx hst hcs hln;go_wp2_with fail;refine wp_region_held_drew (S:=λ w' =>Fr (λ _=>False) wr.drew w') (by kernel_rfl) (Fr.refl _ _) (λ hHeld=> ?_);clear hHeld;refine tA 0 (some 17) rfl (Fr.refl _ _) ?_;refine tA 1 (some 18) rfl (Fr.refl _ _) ?_;refine tA 2 (some 19) rfl (Fr.refl _ _) ?_;refine tL 3 (some 20) (v:=(.agg v.vals.toArray)) rfl ?ysa3 (Fr.refl _ _) ?rsa3
   case ysa3=>
    intro wq hSw;exact jah rfl rfl (λ j u hu=>hSw.cell_some (RA.out j u hu) (λ h=>h)) Tryz.underlying42 rfl (jb7 v)
   try simp only [Act.put,sA,sB,sC]
   refine tA 4 (some 21) rfl (Fr.refl _ _) ?_;refine tA 5 (some 22) rfl (Fr.refl _ _) ?_;refine tA 6 (some 23) rfl (Fr.refl _ _) ?_;refine tL 7 (some 24) (v:=(.agg v2.vals.toArray)) rfl ?ysa7 (Fr.refl _ _) ?rsa7
   case ysa7=>
    intro wq hSw;exact jah rfl rfl (λ j u hu=>hSw.cell_some (RB.out j u hu) (λ h=>h)) Tryz.underlying42 rfl (jb7 v2)
   try simp only [Act.put,sA,sB,sC]
   refine rW 8 (some 25) rfl λ K hK=> ?_
   go_simp;rw [HVV.out];refine(jog v.st v.A v.cs.length v.c v.cs v2.A v2.c v2.cs wr.drew (OA.out.below (Below.drew (Below.refl _ _))) (HO2.out.below (Below.drew (Below.refl _ _))) HCS.out).mono ?_;rintro e w1 ⟨rfl,hb1⟩;have hfr:Fr (λ _=>False) wr.drew w1:=Fr.of_below hb1;go_wp2_with fail;refine hK.out _ _ hfr (λ hHeld=> ?_);clear hK K hHeld
   try simp only [Act.put,sA,sB,sC]
   refine jac (S':=λ w' =>Fr (λ _=>False) w1 w') (λ w' h=>hfr.trans h) ?_;clear hfr;refine tA 9 (some 26) rfl (Fr.refl _ _) ?_;refine tD ?_;have B1:=qH (BE.out.trans (((Below.drew (Below.refl _ _)).trans hb1).mono BE.out.size));clear hb1;go_wp2_with fail;go_roundw
   case rel=>exact⟨j+1,by go_num,by omega,B1.out⟩
   case measure=>simp [intOf];omega
  ·obtain rfl:n=j:=by omega
   go_wp2_with fail;go_ret;exact⟨rfl,BE.out⟩
end
section
open Go.RowKit Go.Proofs
set_option maxRecDepth 20000
set_option maxHeartbeats 1600000
theorem Own.frE {w w':World}{B n c:Nat}{T:TypeId}{A:Option Addr}{xs:List Value}{S:Nat->Prop}(h:Own w B T 1 A n c xs)(hf:Fr S w w')(hA:∀b o,A=some ⟨b,o,none⟩->¬S b):Own w' B T 1 A n c xs:=by
 refine⟨h.sl.fr hf λ b o _ e=>hA b o e, ?_⟩
 rcases h.own with h1|⟨hl,hv⟩
 ·exact .inl h1
 ·right
  refine⟨hl, ?_⟩
  rcases hv with hv|⟨g,cap,cur,hv,hbg,hg,hr⟩
  ·exact .inl hv
  ·have hA':=hv
   injection hA' with hA' _ _
   exact .inr ⟨g,cap,cur,hv,hbg,hf.row_some hg (hA g 0 hA'),hr⟩
end
section
open Go.RowKit Go.Proofs
theorem jiA (long:Nat):∀(k:Nat) (a:Bool) (s:W32) (b:List UInt8) (j:Nat) (p:List UInt8),b.length<=k*long->(k-1)*long<=b.length->(jbd long k a s b)[j]? =some p->p.length<=long+7∧(j+1<k->p.length=long+7)
 |0,_,_,_,j,p,_,_,h=>by simp [jbd] at h
 |1,a,s,b,j,p,h1,h2,h=>by
  rw [jbd] at h
  cases j with
  |zero=>
   simp at h;subst h;rw [jeo];exact⟨by omega,λ h=>by omega⟩
  |succ j=>simp at h
 |k+2,a,s,b,j,p,h1,h2,h=>by
  have e1:(k+2)*long=(k+1)*long+long:=by rw [show k+2=(k+1)+1 from rfl,Nat.add_mul (k+1) 1,Nat.one_mul]
  have e2:(k+2-1)*long=k*long+long:=by rw [show k+2-1=k+1 from by omega,Nat.add_mul,Nat.one_mul]
  rw [jbd] at h
  cases j with
  |zero=>
   simp at h;subst h;rw [jeo,List.length_take];exact⟨by omega,λ h=>by omega⟩
  |succ j=>
   rw [List.getElem?_cons_succ] at h;have h3:=jiA long (k+1) _ _ _ j p (by rw [List.length_drop];omega) (by rw [List.length_drop,Nat.add_sub_cancel];omega) h;exact⟨h3.1,λ h=>h3.2 (by omega)⟩
theorem jot {long:Nat}(h0:0<long){b:List UInt8}{j:Nat}{p:List UInt8}(h:(cutF long b)[j]? =some p):p.length<=long+7∧(j+1<jbT long b.length->p.length=long+7):=by
 refine jiA long _ _ _ b j p (jhe h0) ?_ h;have h1:=jc6 long b.length
 rcases Nat.eq_zero_or_pos (jbT long b.length-1) with h2|h2
 ·rw [h2,Nat.zero_mul];omega
 ·have h3:=jkx h0 (n:=b.length) (i:=jbT long b.length-2) (by omega)
  rw [show jbT long b.length-2+1=jbT long b.length-1 from by omega] at h3;omega
end
section
open Go.RowKit Go.Proofs
set_option maxRecDepth 20000
set_option maxHeartbeats 3200000
structure Ap18 (k o sl e:Nat)(f0 f:Nat->Option (Nat × List UInt8))(u:Nat)(acc:List RvF):Prop where
 ul:u=((acc.map RvF.x).flatMap (jaA k)).length
 le:u<=sl
 inn:∀(i:Nat) (b:List UInt8),((acc.map RvF.x).flatMap (jaA k))[i]? =some b->f (o+i)=some (genN e (i:Int),b)
 out:∀q,o+u<=q->f q=f0 q
 ok:∀v∈acc,ok18 v.x
theorem Ap18.nil (k o sl e:Nat)(f0:Nat->Option (Nat × List UInt8)):Ap18 k o sl e f0 f0 0 []:=
 ⟨rfl,Nat.zero_le _,λ i b h=>by simp at h,λ _ _=>rfl,λ v hv=>by cases hv⟩
theorem Ap18.next {k o sl e u:Nat}{f0 f:Nat->Option (Nat × List UInt8)}{acc:List RvF}{v:RvF}(h:Ap18 k o sl e f0 f u acc)(hok:okR v.x.2=true)(hfit:v.fit)(hn:jby k v.x<=sl-u):
  Ap18 k o sl e f0 (jer o e (jaA k v.x) u f) (u+jby k v.x) (acc ++ [v]):=by
 have hle:=h.le;have hnl:jby k v.x=(jaA k v.x).length:=by rw [jby,if_pos hok,jbz]
 have hfl:((acc ++ [v]).map RvF.x).flatMap (jaA k)=(acc.map RvF.x).flatMap (jaA k)++jaA k v.x:=by simp
 refine⟨by rw [hfl,List.length_append,<-h.ul,hnl],by omega,λ i b hi=> ?_,λ q hq=> ?_,λ y hy=> ?_⟩
 ·rw [hfl] at hi
  rcases Nat.lt_or_ge i u with hlt|hge
  ·rw [List.getElem?_append_left (by rw [<-h.ul];exact hlt)] at hi
   rw [jbx _ _ _ _ (.inl (by omega))];exact h.inn i b hi
  ·rw [List.getElem?_append_right (by rw [<-h.ul];exact hge),<-h.ul] at hi
   have h1:=jeb (o:=o) (e:=e) (jaA k v.x) u f (i-u) b hi
   rwa [show o+u +(i-u)=o+i from by omega,show u +(i-u)=i from by omega] at h1
 ·rw [jbx _ _ _ _ (.inr (by rw [<-hnl];omega))]
  exact h.out q (by omega)
 ·rcases List.mem_append.1 hy with hy|hy
  ·exact h.ok y hy
  ·rw [List.mem_singleton] at hy
   subst hy;exact⟨hfit.1,hok,λ c hc=>by
    obtain⟨z,hz,rfl⟩:=List.mem_map.1 hc;exact hfit.2 z hz⟩
theorem jl2 {k:Nat}(R:List jcP):R.length<=(R.flatMap (jaA k)).length:=by
 induction R with
 |nil=>simp
 |cons x R ih=>
  rw [List.flatMap_cons,List.length_append,List.length_cons,jbz];have:=jc6 (44*k-7) (jbk x).length;omega
theorem Ap18.few {k o sl e u:Nat}{f0 f:Nat->Option (Nat × List UInt8)}{acc:List RvF}(h:Ap18 k o sl e f0 f u acc):acc.length<=u:=by
 have h1:=jl2 (k:=k) (acc.map RvF.x);rw [List.length_map,<-h.ul] at h1;exact h1
theorem jbV {k:Nat}(hk:1<=k)(r:jcP):∀b∈jaA k r,b.length<=44*k:=λ b hb=>by
 obtain⟨i,hi⟩:=List.getElem?_of_mem hb;have:=(jot (long:=44*k-7) (by omega) hi).1;omega
theorem jeu:(Tryz.prog.info? 42).map (λ i=>(i.zero,i.size,i.bytes))=some (some (.agg #[.int .u64 0, .slice none 0 0]),2,32):=by kernel_rfl
theorem fill2 (z0 z1 v0 v1:Value):Instr.fill (λ i=>some (i*2,2)) ((Array.range (1*2)).map ((Value.agg #[z0,z1]).cells[· % (Value.agg #[z0,z1]).cells.size]!)) [(0, .agg #[v0,v1])]=some #[v0,v1]:=by kernel_rfl
theorem jiB {z0 z1 v0 v1:Value}(a:Act)(x:Operand)(h:a.eval x= .agg #[v0,v1]):Instr.fill (λ i=>some (i*2,2)) ((Array.range (1*2)).map ((Value.agg #[z0,z1]).cells[· % (Value.agg #[z0,z1]).cells.size]!)) (Array.map (λ (i,x)=>(i,a.eval x)) #[((0:Nat),x)]).toList=some #[v0,v1]:=by
 have e:(Array.map (λ (i,x)=>(i,a.eval x)) #[((0:Nat),x)]).toList= [(0,a.eval x)]:=by simp
 rw [e,h];exact fill2 ..
theorem Nxt.of_below18 {S:Nat->Prop}{w w':World}(hb:Below w.heap.size w w'):Nxt S S w w':=⟨Fr.of_below hb,λ b h=> .inl h⟩
theorem Nxt.with18 {S S':Nat->Prop}{w w':World}{P:Nat}(h:Nxt S S' w w'):Nxt (λ b=>S b∨b=P) (λ b=>S' b∨b=P) w w':=
 ⟨h.1.mono (λ b hb=> .inl hb),λ b hb=>hb.elim (λ q=>(h.2 b q).imp .inl id) (λ q=> .inl (.inr q))⟩
theorem Nxt.aside18 {S S' U:Nat->Prop}{w w1 w2:World}(h:Nxt S S' w w1)(hf:Fr U w1 w2)(hU:∀x,U x->w.heap.size<=x):Nxt S S' w w2:=⟨h.1.intoN hf (λ b hb=> .inr (hU b hb)),λ b hb=>h.2 b hb⟩
theorem jbW (w:World)(v:RvF):Below w.heap.size w (w.alloc (.cells v.vals.toArray 42)):=(Below.refl _ _).alloc (Nat.le_refl _) _
section
variable {Rep:World->(Nat->Prop)->Nat->Dv->Prop}{Lg:World->Nat->Nat->Nat->Nat->Nat->Nat->Nat->Prop}
def RetAp (Rep:World->(Nat->Prop)->Nat->Dv->Prop)(Lg:World->Nat->Nat->Nat->Nat->Nat->Nat->Nat->Prop)(w0:World)(A C k m F T N P o sl e:Nat)(f0:Nat->Option (Nat × List UInt8))(S0:Nat->Prop)(w:World)(e':Ending)(w':World):Prop:=
 ∃(S:Nat->Prop) (xs:List Dv) (f:Nat->Option (Nat × List UInt8)) (u q ic:Nat) (IA:Option Addr) (acc:List RvF),e' = .returned (.tuple #[.slice IA q ic, .bool true])∧Lo18 Rep Lg w0 w' S A C k m F T N xs P o sl e u∧Pls xs k (k+m) N f∧Idle xs∧Ap18 k o sl e f0 f u acc∧Rn w' IA 42 2 q ic (acc.flatMap RvF.vals)∧acc.length=q∧(∀b,Bk IA b->¬S b∧w.heap.size<=b)∧(∀v∈acc,v.Ok w0)∧Nxt (λ b=>S0 b∨b=P) (λ b=>S b∨b=P) w w'
theorem jga (DK:DrvK Rep)(LK:LgK Rep Lg){w0 w:World}{S0:Nat->Prop}{A C k m F T N P o sl e:Nat}{xs:List Dv}{f0:Nat->Option (Nat × List UInt8)}(A2:Option Addr)(n c2:Nat)(l:List RvF)
  (hlo:Lo18 Rep Lg w0 w S0 A C k m F T N xs P o sl e 0)(hpl:Pls xs k (k+m) N f0)(hid:Idle xs)(hr:Rcs w0 A2 n c2 l)(hf:∀v∈l,v.fit)(hs1:sl<=64)(hs2:o+sl<=N)(hN6:N<=600)(he:e<1099511627776)(hk1:1<=k)(hkm:k+m<=255):
  Calls Tryz.prog 39 #[.pointer (some ⟨P,0,none⟩), .slice A2 n c2, .pointer (some ⟨A,0,none⟩)] w (RetAp Rep Lg w0 A C k m F T N P o sl e f0 S0 w):=by
 have hlim:=hr.cap;have hlim2:=hr.top;unfold maxLen at hlim2;have R0:=qH hr;have LO:=qH hlo;have PL:=qH hpl;have ID:=qH hid;have FI:=qH hf;obtain⟨ib,hb0,hb1,hb2,hb3⟩:=info_parts jeu;have Ib0:=qH hb0;have Ib1:=qH hb1;have Ib2:=qH hb2;have Ib3:=qH hb3;have PW:=qH (LK.lt hlo.lg);have LO0:=qH hlo.lc.bel;have CFT:=qH (show C<w.heap.size∧F<w.heap.size∧T<w.heap.size∧0<w.heap.size from ⟨block_lt hlo.lc.ac.c.row,World.block_lt_of_cell? w _ hlo.lc.ac.c.fld.cell,hlo.lc.ac.c.fld.fld.ltT,hlo.lc.ac.nt.lt13⟩);clear hr hlo hpl hid hf hb0 hb1 hb2 hb3;go_enter Tryz.func39,Tryz.ntmps39;go_wp2_with fail
 go_loopw [8,9] (λ inv iv wr=>∃(S:Nat->Prop) (xs:List Dv) (f:Nat->Option (Nat × List UInt8)) (i u q ic:Nat) (IA:Option Addr) (acc:List RvF),inv= .slice IA q ic∧iv= .int .i64 (i:Int)∧i<=n∧q<=i∧Lo18 Rep Lg w0 wr S A C k m F T N xs P o sl e u∧Pls xs k (k+m) N f∧Idle xs∧Ap18 k o sl e f0 f u acc∧Rn wr IA 42 2 q ic (acc.flatMap RvF.vals)∧acc.length=q∧(∀b,Bk IA b->¬S b∧w.heap.size<=b)∧(∀v∈acc,v.Ok w0)∧Nxt (λ b=>S0 b∨b=P) (λ b=>S b∨b=P) w wr) (λ _ iv _=>n-(intOf iv).toNat)
 case atStart=>exact⟨S0,xs,f0,0,0,0,0,none, [],rfl,rfl,by omega,by omega,LO.out,PL.out,ID.out,Ap18.nil _ _ _ _ _, .inl ⟨rfl,rfl,rfl,rfl⟩,rfl,λ b hb=>(by obtain⟨o,hb⟩:=hb;cases hb),λ v hv=>(by cases hv),Nxt.refl _ _⟩
 case round=>
  obtain⟨S,xs,f,i,u,q,ic,IA,acc,rfl,rfl,hi,hqi,hlo,hpl,hid,hap,hrn,hal,hof,hok,hwz⟩:=hrel;have LO:=qH hlo;have PL:=qH hpl;have ID:=qH hid;have AP:=qH hap;have RN:=qH hrn;have AL:=qH hal;have OF:=qH hof;have OK:=qH hok;have NX:=qH hwz;have hu:=hap.le;have hq64:q<=64:=by have:=hap.few;omega
  clear hlo hpl hid hap hrn hal hof hok hwz
  by_cases hlt:i<n
  ·have hji:(i:Int)<(n:Int):=by omega
   obtain⟨v,hv⟩:∃v,l[i]? =some v:=⟨_,List.getElem?_eq_getElem (by rw [R0.out.len];exact hlt)⟩;obtain⟨b,oo,rfl,hcl0,hvok0⟩:=R0.out.cell i v hv;have hrw:∀W,Below w0.heap.size w0 W->W.rangeAt b (oo+i*2) v.vals:=λ W hb j u hu=>(hb.cell (p:=⟨b,oo+i*2+j,none⟩) (World.block_lt_of_cell? w0 _ (hcl0 j u hu))).trans (hcl0 j u hu)
   have R3B:=qH hrw;have RG:=qH (hrw wr LO.out.lc.bel);have VO:=qH (hvok0.below LO.out.lc.bel);have VW:=qH hvok0;have VF:=qH (FI.out v (List.mem_of_getElem? hv));clear hv hcl0 hvok0 hrw;obtain⟨d,hd⟩:∃d,d=jby k v.x:=⟨_,rfl⟩;have hleft:=LK.left LO.out.lg hu hs1;have hneed:=λ W (h1:Ac13 Rep W S A C k m F T N xs) (h2:Lg W P A C o sl e u) (h3:v.Ok W)=>LK.need v h1 h2 h3 VF.out
   rw [<-hd] at hneed;have HD:=qH hd;have LF:=qH hleft;have NE:=qH hneed;clear hd hleft hneed;go_wp2_with fail;refine wp_region_held_drew (S:=λ w' =>Fr (λ _=>False) wr.drew w') (by kernel_rfl) (Fr.refl _ _) (λ hHeld=> ?_);clear hHeld;refine tA 0 (some 19) rfl (Fr.refl _ _) ?_;refine tA 2 (some 21) rfl (Fr.refl _ _) ?_;refine tA 3 (some 22) rfl (Fr.refl _ _) ?_;refine tA 4 (some 23) rfl (Fr.refl _ _) ?_;refine tA 5 (some 24) rfl (Fr.refl _ _) ?_;refine tL 6 (some 25) (v:=(.agg v.vals.toArray)) rfl ?yap6 (Fr.refl _ _) ?rap6
   case yap6=>
    intro wq hSw;exact jah rfl rfl (λ j u hu=>hSw.cell_some (RG.out j u hu) (λ h=>h)) Tryz.underlying42 rfl (jb7 v)
   try simp only [Act.put,sA,sB,sC]
   refine rW 1 (some 20) rfl λ K hK=> ?_
   go_simp;refine(LK.left (LK.fr LO.out.lg (Fr.of_below (Below.drew (Below.refl _ _)):Fr (λ _=>False) _ _) (λ hh=>hh)) hu hs1).mono ?_;rintro e' w1 ⟨rfl,hb1⟩;have hfr:Fr (λ _=>False) wr.drew w1:=Fr.of_below hb1;go_wp2_with fail;refine hK.out _ _ hfr (λ hHeld=> ?_);clear hK K hHeld
   try simp only [Act.put,sA,sB,sC]
   refine jac (S':=λ w' =>Fr (λ _=>False) w1 w') (λ w' h=>hfr.trans h) ?_;clear hfr;refine rW 7 (some 26) rfl λ K hK=> ?_
   go_simp;have hbw1:Below wr.heap.size wr w1:=(Below.drew (Below.refl _ _)).trans hb1;have LO1:=qH (LO.out.later DK LK hbw1);refine(NE.out w1 LO1.out.lc.ac LO1.out.lg (VO.out.below hbw1)).mono ?_;rintro e' w2 ⟨rfl,hb2⟩;have hfr:Fr (λ _=>False) w1 w2:=Fr.of_below hb2;go_wp2_with fail;refine hK.out _ _ hfr (λ hHeld=> ?_);clear hK K hHeld
   try simp only [Act.put,sA,sB,sC]
   refine jac (S':=λ w' =>Fr (λ _=>False) w2 w') (λ w' h=>hfr.trans h) ?_;clear hfr;refine tA 8 (some 10) rfl (Fr.refl _ _) ?_;refine tA 9 (some 11) rfl (Fr.refl _ _) ?_;refine tD ?_;have hbw2:Below wr.heap.size wr w2:=hbw1.trans (hb2.mono hbw1.size);have LO2:=qH (LO.out.later DK LK hbw2);have RN2:=qH (RN.out.later hbw2);have VO2:=qH (VO.out.below hbw2);have RG2:=qH (R3B.out w2 LO2.out.lc.bel);have NX2:=qH (NX.out.trans (Nxt.of_below18 hbw2));clear hb1 hb2 hbw1 hbw2
   by_cases hokr:okR v.x.2=true
   ·have hdp:0<d:=by rw [HD.out,jby,if_pos hokr];exact jc6 _ _
    by_cases hle:d<=sl-u
    ·have hap:=LK.append v LO2.out.lc.ac PL.out (ID.out.wl0.mono13 (show 0<=900 by decide)) LO2.out.ns LO2.out.lg hu hs1 hs2 hN6 he VO2.out VF.out hokr (by rw [<-HD.out];exact hle)
     have HOK:=qH hokr;clear hokr;go_wp2_with (refine jaj (d:=31) ?_;refine jad (o:=⟨some 31,_,_,_,_,_⟩) (by rfl) _ _ (jah rfl rfl RG2.out Tryz.underlying42 rfl (jb7 v)) ?_);refine hap.mono ?_;clear hap;rintro e' w3 ⟨rfl,S3,hac3,hnx3,hns3,hlg3⟩;have hlo3:=LO2.out.both hac3 hnx3 hns3 hlg3;have hap3:=AP.out.next HOK.out VF.out (by rw [<-HD.out];exact hle);have hpl3:=Pls.puts (o:=o) (e:=e) hk1 (by omega) (by omega) (jaA k v.x) u xs f PL.out (by rw [jbz];have:=HD.out;rw [jby,if_pos HOK.out] at this;omega) (jbV hk1 v.x);rw [<-HD.out] at hlo3 hap3;have hnotP:∀b',Bk IA b' ->¬b' =P:=λ b' hb' e=>by have h1:=(OF.out b' hb').2;have h2:=PW.out;omega
     have RN3:=qH (RN2.out.fr hnx3.1 (λ b' hb' hh=>hh.elim (OF.out b' hb').1 (hnotP b' hb')));have OF3:=qH (show ∀b',Bk IA b' ->¬S3 b' ∧w.heap.size<=b' from λ b' hb' =>⟨λ q=>(hnx3.2 _ (.inl q)).elim (λ r=>r.elim (OF.out b' hb').1 (hnotP b' hb')) (λ r=>by have:=RN2.out.lt hb';omega),(OF.out b' hb').2⟩);have RG3:=qH (R3B.out w3 hlo3.lc.bel);have NX3:=qH (NX2.out.trans hnx3);have LO3:=qH hlo3;have AP3:=qH hap3;have PL3:=qH hpl3;clear hlo3 hap3 hpl3 hac3 hnx3 hns3 hlg3 hnotP;have hdi:¬(d:Int)=0:=by omega
     go_wp2_with (first
      |(refine jaj (d:=67) ?_;refine jad (o:=⟨some 67,_,_,_,_,_⟩) (by rfl) _ _ (jah rfl rfl RG3.out Tryz.underlying42 rfl (jb7 v)) ?_)
      |(refine jaj (d:=68) ?_;refine wpList_buildSlice (o:=⟨some 68,_,_,_,_,_⟩) rfl 59 42 1 #[(0, .tmp 67)] rfl v.vals.toArray ib (.agg #[.int .u64 0, .slice none 0 0]) Tryz.underlying59 Ib0.out Ib1.out (by rw [Ib2.out];decide) (by rw [Ib2.out];decide) (by rw [Ib2.out];exact jiB _ _ rfl) ?_)
      |(at_builtin;refine jbA (o:=⟨some 69,_,_,_,_,_⟩) rfl (.tmp 63) (.tmp 68) 59 59 rfl ib (.agg #[.int .u64 0, .slice none 0 0]) 32 Tryz.underlying59 Ib0.out Ib1.out Ib2.out Ib3.out rfl (by decide) rfl (RN3.out.later (jbW w3 v)) _ 1 v.vals rfl ((Sl.made w3 v.vals.toArray 42 2 1 rfl (by decide)).src Tryz.underlying59 (by decide) (jea v)) (by unfold maxLen;omega) (by omega) ?_))
     intro A7 c7 w4 hrn4 hfb4 hor4;have HOA:=qH (show ∀x,Bk A7 x->Bk IA x∨w3.heap.size<=x from λ x hx=>by
      rcases hor4 with e4|e4
      ·exact .inl (e4▸hx)
      ·rw [e4] at hx
       obtain⟨o4,hx⟩:=hx;injection hx with hx
       injection hx with hx _
       have:=(jbW w3 v).size;exact .inr (by omega))
     have hfA:Fr (Bk IA) w3 w4:=(Fr.of_below (jbW w3 v)).trans hfb4;have hb34:Below w0.heap.size w3 w4:=hfA.below LO3.out.lc.bel.size (λ x hx=>by have h1:=(OF3.out x hx).2;have h2:=LO0.out.size;omega);have hnS:∀x,Bk IA x->¬S3 x:=λ x hx=>(OF3.out x hx).1
     have hnP:¬Bk IA P:=λ hx=>by have h1:=(OF3.out P hx).2;have h2:=PW.out;omega
     have hac:=LO3.out.lc.ac;have hCb:∀x,Bk IA x->w.heap.size<=x:=λ x hx=>(OF3.out x hx).2
     have LO4:=qH (LO3.out.aside DK LK hfA (λ x h1 h2=>hnS x h2 h1) hnP (λ hx=>by have:=hCb _ hx;have:=CFT.out;omega) (λ hx=>by have:=hCb _ hx;have:=CFT.out;omega) (λ hx=>by have:=hCb _ hx;have:=CFT.out;omega) (λ hx=>by have:=hCb _ hx;have:=CFT.out;omega) (LO3.out.lc.bel.trans hb34));have RN4:=qH (show Rn w4 A7 42 2 (q+1) c7 ((acc ++ [v]).flatMap RvF.vals) from by rw [List.flatMap_append,List.flatMap_singleton];exact hrn4);have OF4:=qH (show ∀b',Bk A7 b' ->¬S3 b' ∧w.heap.size<=b' from λ b' hb' =>by
      rcases HOA.out b' hb' with h1|h1
      ·exact OF3.out b' h1
      ·exact⟨λ x=>by have:=LO3.out.lc.ac.a.old x;omega,by have:=NX3.out.1.size;omega⟩)
     have NX4:=qH (show Nxt (λ b=>S0 b∨b=P) (λ b=>S3 b∨b=P) w w4 from NX3.out.aside18 hfA hCb);clear hrn4 hfb4 hor4 hfA hb34 hnS hnP hac hCb;go_wp2_with fail;obtain⟨xs4,hxs4⟩:∃x,x=jbq k (k+m) o e (jaA k v.x) u xs:=⟨_,rfl⟩;have hxl:xs4.length=k+m:=by rw [hxs4];exact LO3.out.lc.ac.len
     have LO4x:=qH (show Lo18 Rep Lg w0 w4 S3 A C k m F T N xs4 P o sl e (u+d) from by rw [hxs4];exact LO4.out);have PL4x:=qH (show Pls xs4 k (k+m) N (jer o e (jaA k v.x) u f) from by rw [hxs4];exact PL3.out);have hpf:Pls (jaL xs4 xs4.length) k (k+m) N (jer o e (jaA k v.x) u f):=by rw [hxl];exact PL4x.out.flush
     have hns:∀(d:Nat) (x:Dv),(jaL xs4 xs4.length)[d]? =some x->x.Ok∧x.n=N:=λ d x hx=>⟨(hpf.live d x hx).1,(hpf.live d x hx).2.1⟩
     have hidf:=jcH (xs:=xs4) rfl (λ d x hx=>(PL4x.out.live d x hx).1);refine(jcF DK LO4x.out.lc.ac.a (LO4x.out.lc.ac.wl.mono13 (show 1000<=100000 by decide)) (by rw [LO4x.out.lc.ac.len];exact hkm)).mono ?_;rintro e' w5 ⟨rfl,hmf⟩;obtain⟨SF,hlof,hnx⟩:=LO4x.out.turn LK hmf jbp hns hidf.wl0;have RN5:=qH (RN4.out.fr hnx.1 (λ b' hb' =>(OF4.out b' hb').1));have OF5:=qH (show ∀b',Bk A7 b' ->¬SF b' ∧w.heap.size<=b' from λ b' hb' =>⟨λ x=>(hnx.2 _ x).elim (OF4.out b' hb').1 (λ r=>by have:=RN4.out.lt hb';omega),(OF4.out b' hb').2⟩);have NX5:=qH (NX4.out.trans hnx.with18);have OK5:=qH (show ∀x∈acc ++ [v],x.Ok w0 from λ x hx=>by
      rcases List.mem_append.1 hx with hx|hx
      ·exact OK.out x hx
      ·rw [List.mem_singleton] at hx;rw [hx];exact VW.out)
     have LOF:=qH hlof;have PLF:=qH hpf;have IDF:=qH hidf;clear hmf hnx hlof hpf hidf hns;go_wp2_with fail;go_roundw
     case rel=>exact⟨SF,_,_,i+1,u+d,q+1,c7,A7,acc ++ [v],rfl,by go_num,by omega,by omega,LOF.out,by rw [hxl] at PLF ⊢;exact PLF.out,IDF.out,AP3.out,RN5.out,by rw [List.length_append,AL.out];rfl,OF5.out,OK5.out,NX5.out⟩
     case measure=>simp [intOf];omega
    ·have hn2:¬(okR v.x.2=true∧jby k v.x<=sl-u):=λ hh=>hle (by rw [HD.out];exact hh.2)
     have HOK:=qH hokr;have hap:=LK.appendNo v LO2.out.lc.ac LO2.out.lg hu hs1 VO2.out VF.out hn2;rw [if_pos HOK.out] at hap;clear hokr hn2;go_wp2_with (refine jaj (d:=31) ?_;refine jad (o:=⟨some 31,_,_,_,_,_⟩) (by rfl) _ _ (jah rfl rfl RG2.out Tryz.underlying42 rfl (jb7 v)) ?_);refine hap.mono ?_;clear hap;rintro e' w3 ⟨rfl,hb3⟩;have LO3:=qH (LO2.out.later DK LK hb3);have RN3:=qH (RN2.out.later hb3);have NX3:=qH (NX2.out.trans (Nxt.of_below18 hb3));clear hb3;go_wp2_with fail;have hxl:xs.length=k+m:=LO3.out.lc.ac.len;have hpf:Pls (jaL xs xs.length) k (k+m) N f:=by rw [hxl];exact PL.out.flush
     have hns:∀(d:Nat) (x:Dv),(jaL xs xs.length)[d]? =some x->x.Ok∧x.n=N:=λ d x hx=>⟨(hpf.live d x hx).1,(hpf.live d x hx).2.1⟩
     have hidf:=jcH (xs:=xs) rfl (λ d x hx=>(PL.out.live d x hx).1);refine(jcF DK LO3.out.lc.ac.a ID.out.wl (by rw [LO3.out.lc.ac.len];exact hkm)).mono ?_;rintro e' w4 ⟨rfl,hmf⟩;obtain⟨SF,hlof,hnx⟩:=LO3.out.turn LK hmf jbp hns hidf.wl0;have RN4:=qH (RN3.out.fr hnx.1 (λ b hb=>(OF.out b hb).1));have NX4:=qH (NX3.out.trans hnx.with18);have OF4:=qH (show ∀b,Bk IA b->¬SF b∧w.heap.size<=b from λ b hb=>⟨λ q=>(hnx.2 _ q).elim (OF.out b hb).1 (λ r=>by have:=RN3.out.lt hb;omega),(OF.out b hb).2⟩);have LOF:=qH hlof;have PLF:=qH hpf;have IDF:=qH hidf;clear hmf hnx hlof hpf hidf hns;go_wp2_with fail;go_roundw
     case rel=>exact⟨SF,_,f,i+1,u,q,ic,IA,acc,rfl,by go_num,by omega,by omega,LOF.out,PLF.out,IDF.out,AP.out,RN4.out,AL.out,OF4.out,OK.out,NX4.out⟩
     case measure=>simp [intOf];omega
   ·have hd0:d=0:=by rw [HD.out,jby,if_neg hokr]
    have hn2:¬(okR v.x.2=true∧jby k v.x<=sl-u):=λ hh=>hokr hh.1
    have HOK:=qH hokr;have hap:=LK.appendNo v LO2.out.lc.ac LO2.out.lg hu hs1 VO2.out VF.out hn2;rw [if_neg HOK.out] at hap;clear hokr hn2;go_wp2_with (refine jaj (d:=31) ?_;refine jad (o:=⟨some 31,_,_,_,_,_⟩) (by rfl) _ _ (jah rfl rfl RG2.out Tryz.underlying42 rfl (jb7 v)) ?_);refine hap.mono ?_;clear hap;rintro e' w3 ⟨rfl,hb3⟩;have LO3:=qH (LO2.out.later DK LK hb3);have RN3:=qH (RN2.out.later hb3);have NX3:=qH (NX2.out.trans (Nxt.of_below18 hb3));clear hb3;go_wp2_with fail;have hxl:xs.length=k+m:=LO3.out.lc.ac.len;have hpf:Pls (jaL xs xs.length) k (k+m) N f:=by rw [hxl];exact PL.out.flush
    have hns:∀(d:Nat) (x:Dv),(jaL xs xs.length)[d]? =some x->x.Ok∧x.n=N:=λ d x hx=>⟨(hpf.live d x hx).1,(hpf.live d x hx).2.1⟩
    have hidf:=jcH (xs:=xs) rfl (λ d x hx=>(PL.out.live d x hx).1);refine(jcF DK LO3.out.lc.ac.a ID.out.wl (by rw [LO3.out.lc.ac.len];exact hkm)).mono ?_;rintro e' w4 ⟨rfl,hmf⟩;obtain⟨SF,hlof,hnx⟩:=LO3.out.turn LK hmf jbp hns hidf.wl0;have RN4:=qH (RN3.out.fr hnx.1 (λ b hb=>(OF.out b hb).1));have NX4:=qH (NX3.out.trans hnx.with18);have OF4:=qH (show ∀b,Bk IA b->¬SF b∧w.heap.size<=b from λ b hb=>⟨λ q=>(hnx.2 _ q).elim (OF.out b hb).1 (λ r=>by have:=RN3.out.lt hb;omega),(OF.out b hb).2⟩);have LOF:=qH hlof;have PLF:=qH hpf;have IDF:=qH hidf;clear hmf hnx hlof hpf hidf hns;go_wp2_with fail;go_roundw
    case rel=>exact⟨SF,_,f,i+1,u,q,ic,IA,acc,rfl,by go_num,by omega,by omega,LOF.out,PLF.out,IDF.out,AP.out,RN4.out,AL.out,OF4.out,OK.out,NX4.out⟩
    case measure=>simp [intOf];omega
  ·obtain rfl:n=i:=by omega
   go_wp2_with fail;go_ret2;exact⟨S,xs,f,u,q,ic,IA,acc,rfl,LO.out,PL.out,ID.out,AP.out,RN.out,AL.out,OF.out,OK.out,NX.out⟩
end
end
section
open Go.RowKit Go.Proofs
set_option maxRecDepth 20000
set_option maxHeartbeats 3200000
theorem LgB.used {w:World}{P A C o sl e u:Nat}(h:LgB w P A C o sl e u)(u':Nat):LgB (w.setCell ⟨P,5,none⟩ (.int .i64 (u':Int))) P A C o sl e u':=heap_setCell_same w P 5 _ _ _ h
theorem jgD {k n o e:Nat}(b:List UInt8):∀(ps:List (List UInt8)) (u:Nat) (xs:List Dv),jbq k n o e (ps ++ [b]) u xs=jaS k n 2 (o +(u+ps.length)) (genN e ((u+ps.length:Nat):Int)) b (jbq k n o e ps u xs)
 | [],u,xs=>rfl
 |c::r,u,xs=>by
  rw [List.cons_append,jbq,jgD b r (u+1),jbq,List.length_cons,show u+1+r.length=u +(r.length+1) from by omega]
theorem jkI {k n o e:Nat}:∀(ps:List (List UInt8)) (u c:Nat) (xs:List Dv),Wl c xs->Wl (c+ps.length) (jbq k n o e ps u xs)
 | [],u,c,xs,h=>h
 |b::r,u,c,xs,h=>by
  rw [jbq,List.length_cons,show c +(r.length+1)=c+1+r.length from by omega];exact jkI r (u+1) (c+1) _ (jnX h)
theorem Gm.grF18 {w w':World}{B g n c:Nat}{rs:List (List UInt8)}{U:Nat->Prop}(h:Gm w B (some ⟨g,0,none⟩) n c rs)(hg:B<=g)(hf:Fr U w w')(hU:∀b,B<=b->b<w.heap.size->¬U b):Gr w' (some ⟨g,0,none⟩) n c rs:=by
 obtain⟨vs,⟨s,hr,hl⟩,h2, -⟩:=h.ex;refine⟨⟨vs,s.fr hf (λ b o hn e=> ?_),λ i r hi=> ?_⟩,hl⟩
 ·have hb:=s.lt (by decide) hn e
  injection e with e
  injection e with e1 e2 e3
  subst e1;exact hU g hg hb
 ·obtain⟨A',c',q1,q2⟩:=hr i r hi
  refine⟨A',c',q1,q2.fr hf λ b o hn e=> ?_⟩;have hb:=q2.lt (by decide) hn e;obtain⟨g',c'',q3,q4,q5⟩:=h2.row i r hi hn;obtain⟨g2,cur,q6,q7,_⟩:=q5 hn;have q3:vs[i]? =some (Value.slice (some ⟨g',0,none⟩) r.length c''):=q3;rw [q1,e] at q3;injection q3 with q3
  injection q3 with q3 _ _
  rw [<-q3] at q6;injection q6 with q6
  injection q6 with q6 _ _
  exact hU b (by omega) hb
section
variable {Rep:World->(Nat->Prop)->Nat->Dv->Prop}{w:World}{S:Nat->Prop}{A C k m F T N P o sl e u:Nat}{xs:List Dv}
theorem LgB.apart (h:LgB w P A C o sl e u)(hc:Cod w C k m F T)(hN:Nt w)(hA:A≠T):C≠P∧F≠P∧T≠P∧0≠P:=by
 have h0:=h.c0;refine⟨λ q=> ?_,λ q=> ?_,λ q=> ?_,λ q=> ?_⟩
 ·have h1:=hc.row
  rw [q,show w.heap[P]? =_ from h] at h1
  cases h1
 ·have h1:=hc.fld.cell
  rw [q,h0] at h1;injection h1 with h1
  injection h1 with h1
  injection h1 with h1
  injection h1 with h1 _ _
  exact hA h1
 ·have h1:=hc.fld.tabs
  unfold Tabs at h1;rw [q,show w.heap[P]? =_ from h] at h1;injection h1 with h1
  injection h1 with _ h1 _
  exact absurd h1 (by decide)
 ·obtain⟨t,fr,h1⟩:=hN.block
  rw [q,show w.heap[P]? =_ from h] at h1;injection h1 with h1
  injection h1 with h1 _ _
  have h2:=congrArg (λ a=>a.toList.head?) h1
  cases hn:nt with
  |nil=>rw [hn] at h2;simp at h2
  |cons z r=>rw [hn] at h2;simp at h2
theorem Ac13.used18 (DK:DrvK Rep)(h:Ac13 Rep w S A C k m F T N xs)(hS:¬S P)(hl:LgB w P A C o sl e u)(v:Value):Ac13 Rep (w.setCell ⟨P,5,none⟩ v) S A C k m F T N xs:=by
 have hA:A≠T:=λ q=>by
  obtain⟨AL,c,ds,ha,_⟩:=h.a;have h1:=ha.box;have h2:=h.c.fld.tabs;unfold Tabs at h2;rw [<-q,h1] at h2;injection h2 with h2
  injection h2 with _ h2 _
  exact absurd h2 (by decide)
 obtain⟨h1,h2,h3,h4⟩:=hl.apart h.c h.nt hA;have hf:Fr (λ b=>b=P) w (w.setCell ⟨P,5,none⟩ v):=(Fr.refl (λ b=>b=P) w).setCell (p:=⟨P,5,none⟩) (.inr rfl) _;exact⟨Arr.fr DK.lay h.a hf (λ b hb e=>hS (by rw [<-(show b=P from e)];exact hb)),h.c.fr hf h1 h2 h3,h.ap,h.len,h.n,h.wl,h.nt.fr13 hf h4,h.ng⟩
theorem jjR {f:Nat->Option (Nat × List UInt8)}(DK:DrvK Rep)(SV:StrV Rep (λ k n G=>k<=cntG n G))(v:RvF)(h:Ac13 Rep w S A C k m F T N xs)(hp:Pls xs k (k+m) N f)(hw:Wl 900 xs)(hS:¬S P)(hl:LgB w P A C o sl e u)(hu:u<=sl)(hs:sl<=64)(ho:o+sl<=N)(hN:N<=600)(he:e<1099511627776)(hv:v.Ok w)(hf:v.fit)(hr:okR v.x.2=true)(hn:(jaA k v.x).length<=sl-u):
  Calls Tryz.prog 17 #[.pointer (some ⟨P,0,none⟩), .agg v.vals.toArray] w λ e' w' =>e' = .returned (.int .i64 0)∧∃S',Ac13 Rep w' S' A C k m F T N (jbq k (k+m) o e (jaA k v.x) u xs)∧Nxt (λ b=>S b∨b=P) (λ b=>S' b∨b=P) w w' ∧¬S' P∧LgB w' P A C o sl e (u +(jaA k v.x).length):=by
 have hk1:=h.c.k1;have hk2:=h.c.n255;obtain⟨wa,hwa⟩:∃x,x=w.alloc (.cells v.vals.toArray 42):=⟨_,rfl⟩;have hb0:Below w.heap.size w wa:=by rw [hwa];exact(Below.refl _ _).alloc (Nat.le_refl _) _
 have hq:ReB wa w.heap.size v.st v.A v.cs.length v.c:=by rw [hwa];exact ReB.new
 have hcut:=λ W (hb:Below w.heap.size w W)=>jhm (A:=A) v o sl e (h.c.later hb) (h.nt.keep hb) (hv.below hb) hf hr
 have hshort:=jbV hk1 v.x;obtain⟨ps,hps⟩:∃x,x=jaA k v.x:=⟨_,rfl⟩;rw [<-hps] at hn hshort ⊢;have hstep:∀i,i<=ps.length->Pls (jbq k (k+m) o e (ps.take i) u xs) k (k+m) N (jer o e (ps.take i) u f)∧Wl 1000 (jbq k (k+m) o e (ps.take i) u xs):=λ i hi=>by
  have e1:(ps.take i).length=i:=by rw [List.length_take];omega
  exact⟨Pls.puts (o:=o) (e:=e) hk1 (by omega) (by omega) _ u xs f hp (by omega) (λ b hb=>hshort b (List.mem_of_mem_take hb)),(jkI (ps.take i) u 900 xs hw).mono13 (by omega)⟩
 have hput:∀i b W S' (ys:List Dv) A2 c2,Ac13 Rep W S' A C k m F T N ys->ps[i]? =some b->Sl W 1 A2 b.length c2 (cells b)->Calls Tryz.prog 52 #[.pointer (some ⟨A,0,none⟩), .pointer (some ⟨C,0,none⟩),nmV o e (u+i), .slice A2 b.length c2] W λ e' w' =>e' = .returned (.tuple #[.int .i64 (cntG (k+m) (jhb ys):Nat), .int .i64 0])∧MutA Rep S' A (jaS k (k+m) 2 (o +(u+i)) (genN e ((u+i:Nat):Int)) b ys) W w':=λ i b W S' ys A2 c2 ha hb hsl=>by
  have hi:i<ps.length:=(List.getElem?_eq_some_iff.1 hb).1;exact SV.put 2 (o +(u+i)) (genN e ((u+i:Nat):Int)) b A2 c2 ha (jiv (by omega) (jc1 _ _) (hshort b (List.mem_of_getElem? hb)) (by omega)) (by omega) hsl
 have HC:=qH hcut;have B0:=qH hb0;have Q0:=qH hq;have L0:=qH (hl.later hb0);have HM:=qH (jbw (hl.later hb0));have HA:=qH hwa;have AC:=qH h;have HPS:=qH hps;have ST:=qH hstep;have PU:=qH hput;have HE:=qH he;have HS:=qH hS;have PW:=qH hl.lt;have SO:=qH (λ b (hb:S b)=>h.a.old hb);clear h hp hw hS hl hv hf hr hwa hb0 hq hcut hps hstep hput hshort he;have hva:v.vals.toArray= #[.int .u64 (v.st:Int), .slice v.A v.cs.length v.c]:=rfl;rw [hva] at HA ⊢;go_enter Tryz.func17,Tryz.ntmps17;have hwa:=HA.out.symm;go_wp2_with (rw [hwa]);refine HM.out.mono ?_;clear HM;rintro e' w1 ⟨rfl,hw⟩;obtain rfl:wa=w1:=hw.symm;clear hwa;go_wp2_with fail;refine wp_region_held_drew (S:=λ w' =>Fr (λ _=>False) wa.drew w') (by kernel_rfl) (Fr.refl _ _) (λ hHeld=> ?_);clear hHeld;refine tA 0 (some 13) rfl (Fr.refl _ _) ?_;refine tA 1 (some 14) rfl (Fr.refl _ _) ?_;refine tA 2 (some 15) rfl (Fr.refl _ _) ?_
 refine tL 3 (some 16) (v:=(.agg (arV A C o sl e).toArray)) rfl ?yca3 (Fr.refl _ _) ?rca3
 case yca3=>
  intro wq hSw;exact jah rfl rfl (λ j u hu=>hSw.cell_some (L0.out.area j u hu) (λ h=>h)) Tryz.underlying82 rfl (ja5 A C o sl e)
 try simp only [Act.put,sA,sB,sC]
 refine tL 4 (some 17) (v:=(.agg v.vals.toArray)) rfl ?yca4 (Fr.refl _ _) ?rca4
 case yca4=>
  intro wq hSw;exact jap rfl rfl (show ReB wq w.heap.size v.st v.A v.cs.length v.c from hSw.row_some Q0.out (λ h=>h))
 try simp only [Act.put,sA,sB,sC]
 refine rW 5 (some 18) rfl λ K hK=> ?_
 go_simp;refine(HC.out wa.drew (Below.drew B0.out)).mono ?_;rintro e' w2 ⟨g,q,rfl,hg,hb2,hgn⟩;have hfr:Fr (λ _=>False) wa.drew w2:=Fr.of_below hb2;go_wp2_with fail;refine hK.out _ _ hfr (λ hHeld=> ?_);clear hK K hHeld
 try simp only [Act.put,sA,sB,sC]
 refine jac (S':=λ w' =>Fr (λ _=>False) w2 w') (λ w' h=>hfr.trans h) ?_;clear hfr;refine tA 6 (some 12) rfl (Fr.refl _ _) ?_;refine tA 7 (some 19) rfl (Fr.refl _ _) ?_;refine tA 8 (some 20) rfl (Fr.refl _ _) ?_;refine tA 9 (some 5) rfl (Fr.refl _ _) ?_;refine tA 10 (some 6) rfl (Fr.refl _ _) ?_;refine tD ?_;have B2:=qH ((Below.drew B0.out).trans (hb2.mono (Below.drew B0.out).size));have hbw:Below wa.heap.size wa w2:=(Below.drew (Below.refl _ _)).trans hb2;have L2:=qH (L0.out.later hbw);have WZ:=qH (show w.heap.size<=wa.heap.size from B0.out.size);have GN:=qH (show wa.heap.size<=g from hgn);rw [<-HPS.out] at hg;obtain rfl:q=ps.length:=by have:=hg.gr.len;exact this.symm
 have GM:=qH (show Gm w2 wa.heap.size (some ⟨g,0,none⟩) ps.length ps.length ps from hg);have AC2:=qH (AC.out.later DK B2.out);have HLF:=qH (jfW L2.out hu hs);clear hb2 hg hgn hbw;go_wp2_with fail;refine HLF.out.mono ?_;clear HLF;rintro e' w3 ⟨rfl,hb3⟩;have B3:=qH (B2.out.trans (hb3.mono B2.out.size));have L3:=qH (L2.out.later hb3);have GM3:=qH ((GM.out.later hb3));have AC3:=qH (AC2.out.later DK hb3);clear hb3;have hle:¬((sl-u:Nat):Int)<(ps.length:Int):=by omega
 go_wp2_with fail;have HNN:=qH hn;have hz:¬sl-u<ps.length:=by omega
 simp only [decide_eq_false hz];clear hle hn hz;go_loopw [31] (λ iv wr=>∃(i:Nat) (S':Nat->Prop),iv= .int .i64 (i:Int)∧i<=ps.length∧Ac13 Rep wr S' A C k m F T N (jbq k (k+m) o e (ps.take i) u xs)∧Nxt (λ b=>S b∨b=P) (λ b=>S' b∨b=P) w3 wr∧¬S' P∧LgB wr P A C o sl e (u+i)) (λ iv _=>ps.length-(intOf iv).toNat)
 case atStart=>exact⟨0,S,rfl,by omega,AC3.out,Nxt.refl _ _,HS.out,L3.out⟩
 case round=>
  obtain⟨i,S',rfl,hi,hac,hnx,hns,hlg⟩:=hrel;have ACR:=qH hac;have NXR:=qH hnx;have NSR:=qH hns;have LR:=qH hlg;clear hac hnx hns hlg;have hui:u+i<=64:=by have:=HNN.out;omega
  by_cases hlt:i<ps.length
  ·have hii:(i:Int)<(ps.length:Int):=by omega
   have hgr:Gr wr (some ⟨g,0,none⟩) ps.length ps.length ps:=GM3.out.grF18 GN.out NXR.out.1 λ b h1 h2 h3=>by
    have hz:=WZ.out
    rcases h3 with h3|h3
    ·have:=SO.out b h3;omega
    ·have:=PW.out;omega
   obtain⟨b,hb⟩:∃b,ps[i]? =some b:=⟨_,List.getElem?_eq_getElem hlt⟩;obtain⟨bk,ok,hA2,hrow⟩:=hgr.at_ (by omega);obtain⟨Ar,cr,hcr,hsr⟩:=hrow i b hb;injection hA2 with hA2
   injection hA2 with e1 e2 e3
   subst e1 e2;rw [Nat.zero_add] at hcr;have SR:=qH hsr;have HB:=qH hb;clear hgr hrow hsr hb;go_wp2_with fail
   skip
   refine wp_region_held_drew (S:=λ w' =>Fr (S') wr.drew w') (by kernel_rfl) (Fr.refl _ _) (λ hHeld=> ?_);clear hHeld;refine tA 0 (some 35) rfl (Fr.refl _ _) ?_;refine tA 1 (some 36) rfl (Fr.refl _ _) ?_;refine tA 2 (some 37) rfl (Fr.refl _ _) ?_;refine tA 3 (some 38) rfl (Fr.refl _ _) ?_;refine tL 4 (some 39) (v:= ?vcb4) rfl ?ycb4 (Fr.refl _ _) ?rcb4
   case ycb4=>
    intro wq hSw
    (try dsimp only at hSw)
    have hc:=hSw.cell_some LR.out.c0 NSR.out;go_simp<;>with_reducible rfl
   try simp only [Act.put,sA,sB,sC]
   refine tA 5 (some 40) rfl (Fr.refl _ _) ?_;refine tA 6 (some 41) rfl (Fr.refl _ _) ?_;refine tA 7 (some 42) rfl (Fr.refl _ _) ?_;refine tA 8 (some 43) rfl (Fr.refl _ _) ?_;refine tL 9 (some 44) (v:= ?vcb9) rfl ?ycb9 (Fr.refl _ _) ?rcb9
   case ycb9=>
    intro wq hSw
    (try dsimp only at hSw)
    have hc:=hSw.cell_some LR.out.c1 NSR.out;go_simp<;>with_reducible rfl
   try simp only [Act.put,sA,sB,sC]
   refine tA 10 (some 45) rfl (Fr.refl _ _) ?_;refine tA 11 (some 46) rfl (Fr.refl _ _) ?_;refine tA 12 (some 47) rfl (Fr.refl _ _) ?_;refine tL 13 (some 48) (v:=(.agg (arV A C o sl e).toArray)) rfl ?ycb13 (Fr.refl _ _) ?rcb13
   case ycb13=>
    intro wq hSw;exact jah rfl rfl (λ j u hu=>hSw.cell_some (LR.out.area j u hu) NSR.out) Tryz.underlying82 rfl (ja5 A C o sl e)
   try simp only [Act.put,sA,sB,sC]
   refine tA 14 (some 49) rfl (Fr.refl _ _) ?_;refine tA 15 (some 50) rfl (Fr.refl _ _) ?_;refine tA 16 (some 51) rfl (Fr.refl _ _) ?_;refine tL 17 (some 52) (v:= ?vcb17) rfl ?ycb17 (Fr.refl _ _) ?rcb17
   case ycb17=>
    intro wq hSw
    (try dsimp only at hSw)
    have hc:=hSw.cell_some LR.out.c5 NSR.out;go_simp<;>with_reducible rfl
   try simp only [Act.put,sA,sB,sC]
   refine tA 19 (some 54) rfl (Fr.refl _ _) ?_;refine rW 18 (some 53) rfl λ K hK=> ?_
   go_simp;refine(jfX A C o sl e (u+i) (by omega) (by omega) HE.out wr.drew).mono ?_;rintro e' w4 ⟨rfl,hb4⟩;have hfr:Fr S' wr.drew w4:=Fr.of_below hb4;go_wp2_with fail;refine hK.out _ _ hfr (λ hHeld=> ?_);clear hK K hHeld
   try simp only [Act.put,sA,sB,sC]
   refine jac (S':=λ w' =>Fr (S') w4 w') (λ w' h=>hfr.trans h) ?_;clear hfr;refine rW 20 (some 55) rfl λ K hK=> ?_
   go_simp;have hbw4:Below wr.heap.size wr w4:=(Below.drew (Below.refl _ _)).trans hb4;have AC4:=qH (ACR.out.later DK hbw4);refine(PU.out i b w4 S' _ Ar cr AC4.out HB.out (SR.out.below hbw4 (Nat.le_refl _))).mono ?_;rintro e' w5 ⟨rfl,hmu⟩;have L4:=qH (LR.out.later hbw4);have hsn:jbq k (k+m) o e (ps.take (i+1)) u xs=jaS k (k+m) 2 (o +(u+i)) (genN e ((u+i:Nat):Int)) b (jbq k (k+m) o e (ps.take i) u xs):=by
    rw [List.take_add_one,HB.out,Option.toList_some,jgD,List.length_take,Nat.min_eq_left (by omega)]
   rw [<-hsn] at hmu;obtain⟨hpl5,hwl5⟩:=ST.out (i+1) (by omega);obtain⟨S5,hac5,hnx5⟩:=AC4.out.mut hmu (by rw [jcu,jcu]) (λ d x hx=>⟨(hpl5.live d x hx).1,(hpl5.live d x hx).2.1⟩) hwl5;clear hsn hmu hpl5 hwl5;have hfr:Fr S' w4 w5:=hnx5.1;go_wp2_with fail;refine hK.out _ _ hfr (λ hHeld=> ?_);clear hK K hHeld
   try simp only [Act.put,sA,sB,sC]
   refine jac (S':=λ w' =>Fr (S') w5 w') (λ w' h=>hfr.trans h) ?_;clear hfr;refine tD ?_;have L5:=qH (L4.out.fr hnx5.1 NSR.out);have NX5:=qH (NXR.out.trans ((Nxt.of_below18 hbw4).trans hnx5.with18));have NS5:=qH (show ¬S5 P from λ x=>(hnx5.2 _ x).elim NSR.out (λ y=>by have:=L4.out.lt;omega));have AC5:=qH hac5;have c5:=L5.out.c5;have fz:=L5.out.free 5;clear hac5 hnx5 hbw4 hb4;go_wp2_with fail;go_roundw
   case rel=>
    refine⟨i+1,S5,by go_num,by omega, ?_, ?_,NS5.out, ?_⟩
    ·exact AC5.out.used18 DK NS5.out L5.out _
    ·exact NX5.out.trans ⟨(Fr.refl _ w5).setCell (p:=⟨P,5,none⟩) (.inr (.inr rfl)) _,λ b hb=> .inl hb⟩
    ·have:=L5.out.used (u +(i+1))
     rwa [show ((u +(i+1):Nat):Int)=(u:Int) +(i:Int)+1 from by omega] at this
   case measure=>simp [intOf];omega
  ·obtain rfl:ps.length=i:=by omega
   go_wp2_with fail;go_ret;have hac:=ACR.out;rw [List.take_of_length_le (Nat.le_refl _)] at hac;exact⟨rfl,S',hac,(Nxt.of_below18 (B3.out)).trans NXR.out,NSR.out,LR.out⟩
theorem jl3 (DK:DrvK Rep)(v:RvF)(h:Cod w C k m F T)(hN:Nt w)(hl:LgB w P A C o sl e u)(hu:u<=sl)(hs:sl<=64)(hv:v.Ok w)(hf:v.fit)(hr:okR v.x.2=false):
  Calls Tryz.prog 17 #[.pointer (some ⟨P,0,none⟩), .agg v.vals.toArray] w λ e' w' =>e' = .returned (.int .i64 2)∧Below w.heap.size w w':=by
 obtain⟨wa,hwa⟩:∃x,x=w.alloc (.cells v.vals.toArray 42):=⟨_,rfl⟩;have hb0:Below w.heap.size w wa:=by rw [hwa];exact(Below.refl _ _).alloc (Nat.le_refl _) _
 have hq:ReB wa w.heap.size v.st v.A v.cs.length v.c:=by rw [hwa];exact ReB.new
 have hcut:=λ W (hb:Below w.heap.size w W)=>jor (A:=A) (C:=C) v o sl e (hv.below hb) hr
 have HC:=qH hcut;have B0:=qH hb0;have Q0:=qH hq;have L0:=qH (hl.later hb0);have HM:=qH (jbw (hl.later hb0));have HA:=qH hwa;clear h hN hl hv hf hr hwa hb0 hq hcut;have hva:v.vals.toArray= #[.int .u64 (v.st:Int), .slice v.A v.cs.length v.c]:=rfl;rw [hva] at HA ⊢;go_enter Tryz.func17,Tryz.ntmps17;have hwa:=HA.out.symm;go_wp2_with (rw [hwa]);refine HM.out.mono ?_;clear HM;rintro e' w1 ⟨rfl,hw⟩;obtain rfl:wa=w1:=hw.symm;clear hwa;go_wp2_with fail;refine wp_region_held_drew (S:=λ w' =>Fr (λ _=>False) wa.drew w') (by kernel_rfl) (Fr.refl _ _) (λ hHeld=> ?_);clear hHeld;refine tA 0 (some 13) rfl (Fr.refl _ _) ?_;refine tA 1 (some 14) rfl (Fr.refl _ _) ?_;refine tA 2 (some 15) rfl (Fr.refl _ _) ?_;refine tL 3 (some 16) (v:=(.agg (arV A C o sl e).toArray)) rfl ?ycc3 (Fr.refl _ _) ?rcc3
 case ycc3=>
  intro wq hSw;exact jah rfl rfl (λ j u hu=>hSw.cell_some (L0.out.area j u hu) (λ h=>h)) Tryz.underlying82 rfl (ja5 A C o sl e)
 try simp only [Act.put,sA,sB,sC]
 refine tL 4 (some 17) (v:=(.agg v.vals.toArray)) rfl ?ycc4 (Fr.refl _ _) ?rcc4
 case ycc4=>
  intro wq hSw;exact jap rfl rfl (show ReB wq w.heap.size v.st v.A v.cs.length v.c from hSw.row_some Q0.out (λ h=>h))
 try simp only [Act.put,sA,sB,sC]
 refine rW 5 (some 18) rfl λ K hK=> ?_
 go_simp;refine(HC.out wa.drew (Below.drew B0.out)).mono ?_;rintro e' w2 ⟨rfl,hb2⟩;have hfr:Fr (λ _=>False) wa.drew w2:=Fr.of_below hb2;go_wp2_with fail;refine hK.out _ _ hfr (λ hHeld=> ?_);clear hK K hHeld
 try simp only [Act.put,sA,sB,sC]
 refine jac (S':=λ w' =>Fr (λ _=>False) w2 w') (λ w' h=>hfr.trans h) ?_;clear hfr;refine tA 6 (some 12) rfl (Fr.refl _ _) ?_;refine tA 7 (some 19) rfl (Fr.refl _ _) ?_;refine tA 8 (some 20) rfl (Fr.refl _ _) ?_;refine tA 9 (some 5) rfl (Fr.refl _ _) ?_;refine tA 10 (some 6) rfl (Fr.refl _ _) ?_;refine tD ?_;have B2:=qH ((Below.drew B0.out).trans (hb2.mono (Below.drew B0.out).size));go_wp2_with fail;go_ret;exact⟨rfl,B2.out⟩
theorem jiC (DK:DrvK Rep)(v:RvF)(h:Cod w C k m F T)(hN:Nt w)(hl:LgB w P A C o sl e u)(hu:u<=sl)(hs:sl<=64)(hv:v.Ok w)(hf:v.fit)(hr:okR v.x.2=true)(hn:sl-u<(jaA k v.x).length):
  Calls Tryz.prog 17 #[.pointer (some ⟨P,0,none⟩), .agg v.vals.toArray] w λ e' w' =>e' = .returned (.int .i64 6)∧Below w.heap.size w w':=by
 obtain⟨wa,hwa⟩:∃x,x=w.alloc (.cells v.vals.toArray 42):=⟨_,rfl⟩;have hb0:Below w.heap.size w wa:=by rw [hwa];exact(Below.refl _ _).alloc (Nat.le_refl _) _
 have hq:ReB wa w.heap.size v.st v.A v.cs.length v.c:=by rw [hwa];exact ReB.new
 have hcut:=λ W (hb:Below w.heap.size w W)=>jhm (A:=A) v o sl e (h.later hb) (hN.keep hb) (hv.below hb) hf hr
 have HC:=qH hcut;have B0:=qH hb0;have Q0:=qH hq;have L0:=qH (hl.later hb0);have HM:=qH (jbw (hl.later hb0));have HA:=qH hwa;clear h hN hl hv hf hr hwa hb0 hq hcut;have hva:v.vals.toArray= #[.int .u64 (v.st:Int), .slice v.A v.cs.length v.c]:=rfl;rw [hva] at HA ⊢;go_enter Tryz.func17,Tryz.ntmps17;have hwa:=HA.out.symm;go_wp2_with (rw [hwa]);refine HM.out.mono ?_;clear HM;rintro e' w1 ⟨rfl,hw⟩;obtain rfl:wa=w1:=hw.symm;clear hwa;go_wp2_with fail;refine wp_region_held_drew (S:=λ w' =>Fr (λ _=>False) wa.drew w') (by kernel_rfl) (Fr.refl _ _) (λ hHeld=> ?_);clear hHeld;refine tA 0 (some 13) rfl (Fr.refl _ _) ?_;refine tA 1 (some 14) rfl (Fr.refl _ _) ?_;refine tA 2 (some 15) rfl (Fr.refl _ _) ?_;refine tL 3 (some 16) (v:=(.agg (arV A C o sl e).toArray)) rfl ?ycd3 (Fr.refl _ _) ?rcd3
 case ycd3=>
  intro wq hSw;exact jah rfl rfl (λ j u hu=>hSw.cell_some (L0.out.area j u hu) (λ h=>h)) Tryz.underlying82 rfl (ja5 A C o sl e)
 try simp only [Act.put,sA,sB,sC]
 refine tL 4 (some 17) (v:=(.agg v.vals.toArray)) rfl ?ycd4 (Fr.refl _ _) ?rcd4
 case ycd4=>
  intro wq hSw;exact jap rfl rfl (show ReB wq w.heap.size v.st v.A v.cs.length v.c from hSw.row_some Q0.out (λ h=>h))
 try simp only [Act.put,sA,sB,sC]
 refine rW 5 (some 18) rfl λ K hK=> ?_
 go_simp;refine(HC.out wa.drew (Below.drew B0.out)).mono ?_;rintro e' w2 ⟨g,q,rfl,hg,hb2,hgn⟩;have hfr:Fr (λ _=>False) wa.drew w2:=Fr.of_below hb2;go_wp2_with fail;refine hK.out _ _ hfr (λ hHeld=> ?_);clear hK K hHeld
 try simp only [Act.put,sA,sB,sC]
 refine jac (S':=λ w' =>Fr (λ _=>False) w2 w') (λ w' h=>hfr.trans h) ?_;clear hfr;refine tA 6 (some 12) rfl (Fr.refl _ _) ?_;refine tA 7 (some 19) rfl (Fr.refl _ _) ?_;refine tA 8 (some 20) rfl (Fr.refl _ _) ?_;refine tA 9 (some 5) rfl (Fr.refl _ _) ?_;refine tA 10 (some 6) rfl (Fr.refl _ _) ?_;refine tD ?_;have B2:=qH ((Below.drew B0.out).trans (hb2.mono (Below.drew B0.out).size));have hbw:Below wa.heap.size wa w2:=(Below.drew (Below.refl _ _)).trans hb2;obtain⟨z,hz⟩:∃z,z=(jaA k v.x).length:=⟨_,rfl⟩;obtain rfl:z=q:=by have:=hg.gr.len;rw [hz];exact this
 rw [<-hz] at hn;have HLF:=qH (jfW (L0.out.later hbw) hu hs);have hlt:((sl-u:Nat):Int)<(z:Int):=by omega
 clear hb2 hg hgn hbw hz;go_wp2_with fail;refine HLF.out.mono ?_;clear HLF;rintro e' w3 ⟨rfl,hb3⟩;have B3:=qH (B2.out.trans (hb3.mono B2.out.size));clear hb3;go_wp2_with fail;go_ret;exact⟨rfl,B3.out⟩
end
end
end Go.Proofs.YtmhejbihdghhaaaGreatDoor

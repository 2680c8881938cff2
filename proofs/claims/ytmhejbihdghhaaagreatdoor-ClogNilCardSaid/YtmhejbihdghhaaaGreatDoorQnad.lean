/-
  Contracts of package clog's right, New and Replay, whatever place is asked for (layer 18)
-/
import Derived.Test.YtmhejbihdghhaaaGreatDoorQnac
import Derived.Test.YtmhejbihdghhaaaGreatDoorQnaa
import Derived.Deep.DeepCutAuto
import Derived.Test.YtmhejbihdghhaaaGreatDoorQab
import Derived.Lib.SmallJoins
import Derived.Test.YtmhejbihdghhaaaGreatDoorQar
namespace Go.Proofs.YtmhejbihdghhaaaGreatDoor
set_option linter.unusedVariables false
section
open Go.RowKit Go.Proofs
set_option maxRecDepth 20000
set_option maxHeartbeats 3200000
section
theorem areaI_new (w:World)(A C:Option Addr)(o sl:Int)(e:Nat):(w.alloc (.cells (arI A C o sl e).toArray 82)).rangeAt w.heap.size 0 (arI A C o sl e):=by
 intro j v hv;rw [cell_of_row _ _ _ _ _ _ (heap_alloc_new w _)]
 match j,hv with
 |0,hv=>exact hv
 |1,hv=>exact hv
 |2,hv=>exact hv
 |3,hv=>exact hv
 |4,hv=>exact hv
 |j+5,hv=>simp [arI] at hv
theorem areaI_later {w w':World}{B:Nat}{A C:Option Addr}{o sl:Int}{e:Nat}(h:w.rangeAt B 0 (arI A C o sl e))(hb:Below w.heap.size w w'):w'.rangeAt B 0 (arI A C o sl e):=
 λ j v hv=>(hb.cell (p:=⟨B,0+j,none⟩) (World.block_lt_of_cell? w _ (h j v hv))).trans (h j v hv)
section
variable {Rep:World->(Nat->Prop)->Nat->Dv->Prop}{w:World}{S:Nat->Prop}{A C k m F T N:Nat}{xs:List Dv}
theorem lright_no (DK:DrvK Rep)(o sl:Int)(e:Nat)(h:Ac13 Rep w S A C k m F T N xs)(ho1: -9223372036854775808<=o)(ho2:o<9223372036854775808)(hs1: -9223372036854775808<=sl)(hs2:sl<9223372036854775808)(h4:N<=600)(hno:¬MayL o sl e N):
  Calls Tryz.prog 48 #[.agg (arI (some ⟨A,0,none⟩) (some ⟨C,0,none⟩) o sl e).toArray] w λ e' w' =>e' = .returned (.bool false)∧Below w.heap.size w w':=by
 obtain⟨n,hn⟩:∃n,n=k+m:=⟨_,rfl⟩;have hq1:1<=n:=by have:=h.c.k1;omega
 have hq2:n<=255:=by have:=h.c.n255;omega
 have hlen:xs.length=n:=by rw [h.len,hn]
 have harN:∀w,AP Rep w S A xs->Calls Tryz.prog 60 #[.pointer (some ⟨A,0,none⟩)] w λ e w' =>e= .returned (.int .i64 (n:Int))∧w' =w:=λ w q=>by
  have:=arN_any q
  rwa [hlen] at this
 obtain⟨x0,hx0⟩:∃x,xs[0]? =some x:=⟨_,List.getElem?_eq_getElem (by omega)⟩;have hsec:∀w,AP Rep w S A xs->Calls Tryz.prog 85 #[.pointer (some ⟨A,0,none⟩)] w λ e w' =>e= .returned (.int .i64 (N:Int))∧Below w.heap.size w w':=λ w q=>by
  have:=arsectors_any DK q hx0
  rwa [(h.n 0 x0 hx0).2] at this
 have PA:=qH h.a;have PC:=qH h.c;have Hn:=qH hn;have s5:¬(n:Int)=0:=by omega
 have HNO:=qH hno;have HAR:=qH harN;have HSE:=qH hsec;have r0:=areaI_new w (some ⟨A,0,none⟩) (some ⟨C,0,none⟩) o sl e;have hb0:Below w.heap.size w (w.alloc (.cells (arI (some ⟨A,0,none⟩) (some ⟨C,0,none⟩) o sl e).toArray 82)):=(Below.refl _ _).alloc (Nat.le_refl _) _;obtain⟨wa,hwa⟩:∃x,x=w.alloc (.cells (arI (some ⟨A,0,none⟩) (some ⟨C,0,none⟩) o sl e).toArray 82):=⟨_,rfl⟩;have B0:=qH hb0;have R0:=qH r0;have HA:=qH hwa;rw [<-hwa] at R0 B0;clear h hn hlen hx0 harN hsec r0 hb0 hwa hq1 hno;unfold arI;go_enter Tryz.func48,Tryz.ntmps48;have hwa:w.alloc (.cells #[.pointer (some ⟨A,0,none⟩), .pointer (some ⟨C,0,none⟩), .int .i64 o, .int .i64 sl, .int .u64 (e:Int)] 82)=wa:=HA.out.symm;have a1:=R0.out 1 _ rfl;rw [Nat.zero_add] at a1;go_wp2_with (rw [hwa]);refine(cn13 (PC.out.later B0.out) Hn.out).mono ?_;rintro e' w1 ⟨rfl,hb1⟩;have B1:=qH (B0.out.trans (hb1.mono B0.out.size))
 have R2:=qH (areaI_later R0.out hb1);have a0:=R2.out 0 _ rfl;rw [Nat.zero_add] at a0;clear a1 hb1;go_wp2_with fail;refine(HAR.out w1 (PA.out.later DK.lay B1.out)).mono ?_;rintro e' w2 ⟨rfl,hw⟩;obtain rfl:w1=w2:=hw.symm;have a3:=R2.out 3 _ rfl;have a4:=R2.out 4 _ rfl;rw [Nat.zero_add] at a3 a4
 by_cases hc4:(1<=sl∧sl<=64)∧(e:Int)<1099511627776
 ·have HC4:=qH hc4
  clear hc4;go_wp2_with fail
  any_goals (exfalso;have hq4:=HC4.out;omega)
  by_cases ho:0<=o
  ·have HO:=qH ho
   refine wp_region_held_drew (S:=λ w' =>Fr (λ _=>False) w1.drew w') (by kernel_rfl) (Fr.refl _ _) (λ hHeld=> ?_);clear hHeld;refine tA 0 (some 29) rfl (Fr.refl _ _) ?_;refine tL 1 (some 30) (v:= ?vcu1) rfl ?ycu1 (Fr.refl _ _) ?rcu1
   case ycu1=>
    intro wq hSw
    (try dsimp only at hSw)
    have hc:=hSw.cell_some (R2.out 2 _ rfl) (λ h=>h);rw [Nat.zero_add] at hc;go_simp<;>with_reducible rfl
   try simp only [Act.put,sA,sB,sC]
   refine tA 2 (some 31) rfl (Fr.refl _ _) ?_;refine tA 3 (some 32) rfl (Fr.refl _ _) ?_;refine tA 4 (some 33) rfl (Fr.refl _ _) ?_;refine tL 5 (some 34) (v:= ?vcu5) rfl ?ycu5 (Fr.refl _ _) ?rcu5
   case ycu5=>
    intro wq hSw
    (try dsimp only at hSw)
    have hc:=hSw.cell_some (R2.out 2 _ rfl) (λ h=>h);rw [Nat.zero_add] at hc;go_simp<;>with_reducible rfl
   try simp only [Act.put,sA,sB,sC]
   refine tA 6 (some 35) rfl (Fr.refl _ _) ?_;refine tL 7 (some 36) (v:= ?vcu7) rfl ?ycu7 (Fr.refl _ _) ?rcu7
   case ycu7=>
    intro wq hSw
    (try dsimp only at hSw)
    have hc:=hSw.cell_some (R2.out 0 _ rfl) (λ h=>h);rw [Nat.zero_add] at hc;go_simp<;>with_reducible rfl
   try simp only [Act.put,sA,sB,sC]
   refine tA 9 (some 38) rfl (Fr.refl _ _) ?_;refine tL 10 (some 39) (v:= ?vcu10) rfl ?ycu10 (Fr.refl _ _) ?rcu10
   case ycu10=>
    intro wq hSw
    (try dsimp only at hSw)
    have hc:=hSw.cell_some (R2.out 3 _ rfl) (λ h=>h);rw [Nat.zero_add] at hc;go_simp<;>with_reducible rfl
   try simp only [Act.put,sA,sB,sC]
   refine rW 8 (some 37) rfl λ K hK=> ?_
   go_simp;refine(HSE.out w1.drew (PA.out.later DK.lay (Below.drew B1.out))).mono ?_;rintro e' w3 ⟨rfl,hb3⟩;have hfr:Fr (λ _=>False) w1.drew w3:=Fr.of_below hb3;go_wp2_with fail;refine hK.out _ _ hfr (λ hHeld=> ?_);clear hK K hHeld
   try simp only [Act.put,sA,sB,sC]
   refine wpAnyH_re (S':=λ w' =>Fr (λ _=>False) w3 w') (λ w' h=>hfr.trans h) ?_;clear hfr;refine tA 11 (some 40) rfl (Fr.refl _ _) ?_;refine tA 12 (some 41) rfl (Fr.refl _ _) ?_;refine tA 13 (some 42) rfl (Fr.refl _ _) ?_;refine tA 14 (some 2) rfl (Fr.refl _ _) ?_;refine tD ?_;have B3:=qH ((Below.drew B1.out).trans (hb3.mono (Below.drew B1.out).size));go_wp2_with fail;go_ret;refine⟨?_,B3.out⟩
   show Ending.returned (.bool (decide (o<=IntKind.i64.wrap ((N:Int)-sl))))=_
   rw [decide_eq_false (show ¬o<=IntKind.i64.wrap ((N:Int)-sl) from by
    have q1:=HC4.out;rw [IntKind.wrap_i64];intro hle;exact HNO.out ⟨HO.out,by omega,q1.1.1,q1.1.2,by omega⟩)]
  ·have HO:=qH ho
   refine wp_region_held_drew (S:=λ w' =>Fr (λ _=>False) w1.drew w') (by kernel_rfl) (Fr.refl _ _) (λ hHeld=> ?_);clear hHeld;refine tA 0 (some 29) rfl (Fr.refl _ _) ?_;refine tL 1 (some 30) (v:= ?vcv1) rfl ?ycv1 (Fr.refl _ _) ?rcv1
   case ycv1=>
    intro wq hSw
    (try dsimp only at hSw)
    have hc:=hSw.cell_some (R2.out 2 _ rfl) (λ h=>h);rw [Nat.zero_add] at hc;go_simp<;>with_reducible rfl
   try simp only [Act.put,sA,sB,sC]
   refine tA 2 (some 31) rfl (Fr.refl _ _) ?_;refine tA 3 (some 32) rfl (Fr.refl _ _) ?_;refine tU 4 (some 33) rfl (Fr.refl _ _) ?_;refine tU 5 (some 34) rfl (Fr.refl _ _) ?_;refine tU 6 (some 35) rfl (Fr.refl _ _) ?_;refine tU 7 (some 36) rfl (Fr.refl _ _) ?_;refine tU 8 (some 37) rfl (Fr.refl _ _) ?_;refine tU 9 (some 38) rfl (Fr.refl _ _) ?_;refine tU 10 (some 39) rfl (Fr.refl _ _) ?_;refine tU 11 (some 40) rfl (Fr.refl _ _) ?_;refine tU 12 (some 41) rfl (Fr.refl _ _) ?_;refine tA 13 (some 42) rfl (Fr.refl _ _) ?_;refine tA 14 (some 2) rfl (Fr.refl _ _) ?_;refine tD ?_;go_wp2_with fail;go_ret;exact⟨rfl,Below.drew B1.out⟩
 ·have HC4:=qH hc4
  clear hc4;go_wp2_with fail
  all_goals first
   |(exfalso;have hq4:=HC4.out;omega)
   |(go_ret;exact⟨rfl,B1.out⟩)
theorem lright_gen (DK:DrvK Rep)(o sl:Int)(e:Nat)(h:Ac13 Rep w S A C k m F T N xs)(ho1: -9223372036854775808<=o)(ho2:o<9223372036854775808)(hs1: -9223372036854775808<=sl)(hs2:sl<9223372036854775808)(h4:N<=600)(β:Bool)(hβ:β=true↔MayL o sl e N):
  Calls Tryz.prog 48 #[.agg (arI (some ⟨A,0,none⟩) (some ⟨C,0,none⟩) o sl e).toArray] w λ e' w' =>e' = .returned (.bool β)∧Below w.heap.size w w':=by
 cases β
 ·exact lright_no DK o sl e h ho1 ho2 hs1 hs2 h4 (λ q=>by have:=hβ.2 q;cases this)
 ·obtain⟨q1,q2,q3,q4,q5⟩:=hβ.1 rfl
  obtain⟨o',rfl⟩:∃n:Nat,o=(n:Int):=⟨o.toNat,by omega⟩;obtain⟨s',rfl⟩:∃n:Nat,sl=(n:Int):=⟨sl.toNat,by omega⟩;exact lright_yes DK o' s' e h (by omega) (by omega) (by omega) h4 q5
end
section
variable {w:World}{A C:Option Addr}{o sl:Int}{e:Nat}{β:Bool}
theorem lnew_gen (hri:∀W,Below w.heap.size w W->Calls Tryz.prog 48 #[.agg (arI A C o sl e).toArray] W λ e' w' =>e' = .returned (.bool β)∧Below W.heap.size W w'):
  Calls Tryz.prog 13 #[.pointer A, .pointer C, .int .i64 o, .int .i64 sl, .int .u64 (e:Int)] w λ e' w' =>(∃q:Option Addr,e' = .returned (.pointer q)∧q.isSome=β)∧Below w.heap.size w w':=by
 have HRI:=qH hri;have r0:=areaI_new w A C o sl e;have hb0:Below w.heap.size w (w.alloc (.cells (arI A C o sl e).toArray 82)):=(Below.refl _ _).alloc (Nat.le_refl _) _;obtain⟨wa,hwa⟩:∃x,x=w.alloc (.cells (arI A C o sl e).toArray 82):=⟨_,rfl⟩;rw [<-hwa] at r0 hb0;have B0:=qH hb0;have R0:=qH r0;have HA:=qH hwa;have sz:=qH (show (Tryz.prog.info? 82).map (·.size)=some (arI A C o sl e).length from by show _=some 5;kernel_rfl);clear hri r0 hb0 hwa;go_enter Tryz.func13,Tryz.ntmps13;go_wp2_with fail;have hwa:w.alloc (.cells #[.pointer A, .pointer C, .int .i64 o, .int .i64 sl, .int .u64 (e:Int)] 82)=wa:=HA.out.symm;rw [hwa];refine(HRI.out wa B0.out).mono ?_;rintro e' w1 ⟨rfl,hb1⟩;have B1:=qH (B0.out.trans (hb1.mono B0.out.size));have R1:=qH (areaI_later R0.out hb1);clear hb1 hwa;unfold arI at R1 sz
 cases β
 ·go_wp2_with fail
  go_ret;exact⟨⟨none,rfl,rfl⟩,B1.out⟩
 ·go_wp2_with (refine at_dst17 (d:=21) ?_;refine wpList_step17 (o:=⟨some 21,_,_,_,_,_⟩) (by rfl) _ _ (step_loadMid17 rfl rfl R1.out Tryz.underlying82 rfl sz.out) ?_)
  go_ret;exact⟨⟨some ⟨w1.heap.size,0,none⟩,rfl,rfl⟩,B1.out.trans (((Below.refl _ _).alloc (Nat.le_refl _) _).mono B1.out.size)⟩
theorem lreplay_no (hri:∀W,Below w.heap.size w W->Calls Tryz.prog 48 #[.agg (arI A C o sl e).toArray] W λ e' w' =>e' = .returned (.bool false)∧Below W.heap.size W w'):
  Calls Tryz.prog 29 #[.pointer A, .pointer C, .int .i64 o, .int .i64 sl, .int .u64 (e:Int)] w λ e' w' =>e' = .returned (.tuple #[.slice none 0 0, .int .i64 0])∧Below w.heap.size w w':=by
 have HRI:=qH hri;have hb0:Below w.heap.size w (w.alloc (.cells (arI A C o sl e).toArray 82)):=(Below.refl _ _).alloc (Nat.le_refl _) _;obtain⟨wa,hwa⟩:∃x,x=w.alloc (.cells (arI A C o sl e).toArray 82):=⟨_,rfl⟩;rw [<-hwa] at hb0;have B0:=qH hb0;have HA:=qH hwa;clear hri hb0 hwa;go_enter Tryz.func29,Tryz.ntmps29;go_wp2_with fail;have hwa:w.alloc (.cells #[.pointer A, .pointer C, .int .i64 o, .int .i64 sl, .int .u64 (e:Int)] 82)=wa:=HA.out.symm;rw [hwa];refine(HRI.out wa B0.out).mono ?_;rintro e' w1 ⟨rfl,hb1⟩;have B1:=qH (B0.out.trans (hb1.mono B0.out.size));clear hb1 hwa;go_wp2_with fail;go_ret2;exact⟨rfl,B1.out⟩
end
end
end
section
open Go.RowKit Go.Proofs
set_option maxRecDepth 20000
set_option maxHeartbeats 3200000
def AreaB (w:World)(B:Nat)(o sl:Int)(e:Nat):Prop:=w.heap[B]? =some (.cells #[.int .i64 o, .int .i64 sl, .int .u64 (e:Int)] 26 (0,0))
theorem AreaB.later {w w':World}{B:Nat}{o sl:Int}{e:Nat}(h:AreaB w B o sl e)(hb:Below w.heap.size w w'):AreaB w' B o sl e:=(hb.block _ (block_lt h)).trans h
theorem AreaB.c0 {w:World}{B:Nat}{o sl:Int}{e:Nat}(h:AreaB w B o sl e):w.cell? ⟨B,0,none⟩=some (.int .i64 o):=by rw [cell_of_row _ _ _ _ _ _ h];rfl
theorem AreaB.c1 {w:World}{B:Nat}{o sl:Int}{e:Nat}(h:AreaB w B o sl e):w.cell? ⟨B,1,none⟩=some (.int .i64 sl):=by rw [cell_of_row _ _ _ _ _ _ h];rfl
theorem AreaB.c2 {w:World}{B:Nat}{o sl:Int}{e:Nat}(h:AreaB w B o sl e):w.cell? ⟨B,2,none⟩=some (.int .u64 (e:Int)):=by rw [cell_of_row _ _ _ _ _ _ h];rfl
theorem clogNil_walk {Rep:World->(Nat->Prop)->Nat->Dv->Prop}(DK:DrvK Rep)(HLG:Logs18)(v:RvF)(o sl:Int)(e:Nat)(w:World)(hv:v.Ok w)(bo: -9223372036854775808<=o∧o<9223372036854775808)(bs: -9223372036854775808<=sl∧sl<9223372036854775808)(he:e<18446744073709551616)(hN:Nt w):
  Calls Tryz.prog 7 #[.agg v.vals.toArray, .agg #[.int .i64 o, .int .i64 sl, .int .u64 (e:Int)]] w (SaysTrue w):=by
 obtain⟨w1,hw1⟩:∃x,x=(w.alloc (.cells #[.int .u64 (v.st:Int), .slice v.A v.cs.length v.c] 42)).alloc (.cells #[.int .i64 o, .int .i64 sl, .int .u64 (e:Int)] 26):=⟨_,rfl⟩;have hb1:Below w.heap.size w w1:=by rw [hw1];exact((Below.refl _ _).alloc (Nat.le_refl _) _).alloc (by simp) _
 have hre:ReB w1 w.heap.size v.st v.A v.cs.length v.c:=by
  rw [hw1];exact(((Below.refl _ _).alloc (Nat.le_refl _) _:Below (w.alloc (.cells #[.int .u64 (v.st:Int), .slice v.A v.cs.length v.c] 42)).heap.size _ _).block _ (block_lt ReB.new)).trans ReB.new
 have har:AreaB w1 (w.heap.size+1) o sl e:=by
  rw [hw1];have h0:=heap_alloc_new (w.alloc (.cells #[.int .u64 (v.st:Int), .slice v.A v.cs.length v.c] 42)) (.cells #[.int .i64 o, .int .i64 sl, .int .u64 (e:Int)] 26)
  rwa [show (w.alloc (.cells #[.int .u64 (v.st:Int), .slice v.A v.cs.length v.c] 42)).heap.size=w.heap.size+1 from by simp] at h0
 have hfw:=few17_any 0 v.st v.A v.cs.length v.c v.cs w1 (hv.below hb1);have HF:=qH hfw;have HW:=qH hw1;have B1:=qH hb1;have Q1:=qH hre;have A1:=qH har;have HN:=qH hN;have HV:=qH hv;clear hw1 hb1 hre har hfw hN hv;have hva:v.vals.toArray= #[.int .u64 (v.st:Int), .slice v.A v.cs.length v.c]:=rfl;rw [hva];go_enter Tryz.func7,Tryz.ntmps7;go_wp2_with (first|(rw [<-HW.out])|(refine at_dst17 (d:=14) ?_;refine wpList_step17 (o:=⟨some 14,_,_,_,_,_⟩) (by rfl) _ _ (step_loadRe rfl rfl Q1.out) ?_));have hfw:=HF.out;unfold RetF17 at hfw;refine hfw.mono ?_;clear hfw;rintro e' w2 ⟨β,rfl,hb2⟩;have B2:=qH (B1.out.trans (hb2.mono B1.out.size));have Q2:=qH (Q1.out.later hb2);have A2:=qH (A1.out.later hb2);clear hb2
 cases β
 ·go_wp2_with fail
  refine(HLG w2 (HN.out.keep B2.out)).mono ?_;rintro e' wz ⟨rfl,hbz⟩;go_wp2_with fail;go_ret;exact⟨rfl,B2.out.trans (hbz.mono B2.out.size)⟩
 go_wp2_with fail;go_loopw [5,6] (λ lv iv wr=>∃i:Nat,iv= .int .i64 (i:Int)∧i<=2∧NoL wr lv∧Below w2.heap.size w2 wr) (λ _ iv _=>2-(intOf iv).toNat)
 case atStart=>exact⟨0,rfl,by decide, .inl rfl,Below.refl _ _⟩
 case round=>
  obtain⟨i,rfl,hi,hno,hbe⟩:=hrel;have NO:=qH hno;have BE:=qH hbe;have QR:=qH (Q2.out.later hbe);have AR:=qH (A2.out.later hbe);clear hno hbe
  by_cases hlt:i<2
  ·have hii:(i:Int)<2:=by omega
   go_wp2_with (refine at_dst17 (d:=23) ?_;refine wpList_step17 (o:=⟨some 23,_,_,_,_,_⟩) (by rfl) _ _ (step_loadRe rfl rfl QR.out) ?_);have hnd:=lneed_nil v NO.out;rw [hva] at hnd;refine hnd.mono ?_;clear hnd;rintro e' w3 ⟨rfl,hb3⟩;have N3:=qH (NO.out.later hb3);have E3:=qH (BE.out.trans (hb3.mono BE.out.size));clear hb3;have hus:=lused_no N3.out;go_wp2_with fail;refine hus.mono ?_;clear hus;rintro e' w4 ⟨rfl,hw⟩;obtain rfl:w3=w4:=hw.symm;have hle:=lleft_no N3.out;go_wp2_with fail;refine hle.mono ?_;clear hle;rintro e' w4 ⟨rfl,hw⟩;obtain rfl:w3=w4:=hw.symm;have hrf:=lrefs_nil N3.out;go_wp2_with fail;refine hrf.mono ?_;clear hrf;rintro e' w4 ⟨A4,c4,rfl,hb4⟩;have N4:=qH (N3.out.later hb4);have E4:=qH (E3.out.trans (hb4.mono E3.out.size));have Q4:=qH (Q2.out.later E4.out);clear hb4;have hap:=lappend_nil v N4.out;rw [hva] at hap
   go_wp2_with (refine at_dst17 (d:=38) ?_;refine wpList_step17 (o:=⟨some 38,_,_,_,_,_⟩) (by rfl) _ _ (step_loadRe rfl rfl Q4.out) ?_);refine hap.mono ?_;clear hap;rintro e' w5 ⟨rfl,hb5⟩;have N5:=qH (N4.out.later hb5);have E5:=qH (E4.out.trans (hb5.mono E4.out.size));clear hb5;have hep:=lepoch_no N5.out;go_wp2_with fail;refine hep.mono ?_;clear hep;rintro e' w6 ⟨rfl,hw⟩;obtain rfl:w5=w6:=hw.symm;go_wp2_with fail;go_roundw
   case rel=>
    refine⟨i+1,by go_num,by omega, .inr ⟨w5.heap.size,rfl, ?_⟩,E5.out.trans (((Below.refl _ _).alloc (Nat.le_refl _) _).mono E5.out.size)⟩;rw [cell_of_row _ _ _ _ _ _ (heap_alloc_new w5 _)]
    rfl
   case measure=>simp [intOf];omega
  ·obtain rfl:i=2:=by omega
   go_wp2_with fail;have BR:=qH (B2.out.trans (BE.out.mono B2.out.size));refine(made13_any DK 2 1 8 (by decide) (by decide) (by decide) (by decide) (by decide) wr).mono ?_;intro e' w5 hm;obtain⟨A,S5,C,F,T,rfl,hL,hS5,hbel⟩:=Lc13.made hm BR.out (HN.out.keep BR.out);have A5:=qH (AR.out.later hbel);have L5:=qH hL;clear hm hL hS5 hbel;have a0:=A5.out.c0;have a1:=A5.out.c1;have a2:=A5.out.c2;go_wp2_with fail;have hr1:=lreplay_no (w:=w5) (A:=none) (C:=some ⟨C,0,none⟩) (o:=o) (sl:=sl) (e:=e) (λ W hb=>lright_nilA C F T 2 1 o sl e W (L5.out.ac.c.later hb));refine hr1.mono ?_;clear hr1;rintro e' w6 ⟨rfl,hb6⟩;have A6:=qH (A5.out.later hb6);have L6:=qH (L5.out.later DK hb6);clear hb6 a0 a1 a2;have a0:=A6.out.c0;have a1:=A6.out.c1;have a2:=A6.out.c2;go_wp2_with fail;have hr2:=lreplay_no (w:=w6) (A:=some ⟨A,0,none⟩) (C:=none) (o:=o) (sl:=sl) (e:=e) (λ W hb=>lright_nilC (some ⟨A,0,none⟩) o sl e W)
   refine hr2.mono ?_;clear hr2;rintro e' w7 ⟨rfl,hb7⟩;have A7:=qH (A6.out.later hb7);have L7:=qH (L6.out.later DK hb7);clear hb7 a0 a1 a2;have a0:=A7.out.c0;have a1:=A7.out.c1;have a2:=A7.out.c2;obtain⟨β,hβ⟩:∃β:Bool,β=true↔MayL o sl e 8:=by
    by_cases hm:MayL o sl e 8
    ·exact⟨true,λ _=>hm,λ _=>rfl⟩
    ·exact⟨false,λ q=>(by cases q),λ q=>absurd q hm⟩
   have HBE:=qH hβ;have no:¬MayL o sl e 8->β=false:=λ q=>by
    cases hb:β
    ·rfl
    ·exact absurd (hβ.1 hb) q
   have NB:=qH no;clear hβ no;go_upto_region 13 with fail
   go_cut [13] (λ v wx=>v= .bool β∧wx=w7)
   case first=>
    rcases(show o<0∨(0<=o∧8<o)∨(0<=o∧o<=8∧sl<1)∨(0<=o∧o<8∧1<=sl∧8-o<sl)∨(o=8∧1<=sl)∨(0<=o∧o<8∧1<=sl∧sl<=8-o∧1099511627776<=e)∨(0<=o∧o<8∧1<=sl∧sl<=8-o∧e<1099511627776) from by omega) with g|⟨g1,g2⟩|⟨g1,g2,g3⟩|⟨g1,g2,g3,g4⟩|⟨g1,g2⟩|⟨g1,g2,g3,g4,g5⟩|⟨g1,g2,g3,g4,g5⟩
    ·have HG:=qH g
     obtain rfl:=NB.out (λ q=>by have:=q.1;omega);clear he;go_wp2_with fail
     all_goals
      go_meet;exact⟨by first|rfl|(rw [decide_eq_true (by have:=HG.out;omega)];done)|(rw [decide_eq_false (by have:=HG.out;omega)];done),rfl⟩
    ·have HG:=qH g1
     obtain rfl:=NB.out (λ q=>by have h1:=q.2.1;have h2:=q.2.2.1;omega);clear he;go_wp2_with fail
     all_goals
      go_meet;exact⟨by first|rfl|(rw [decide_eq_true (by have:=HG.out;omega)];done)|(rw [decide_eq_false (by have:=HG.out;omega)];done),rfl⟩
    ·have HG:=qH g1
     obtain rfl:=NB.out (λ q=>by have h2:=q.2.2.1;omega);clear he;go_wp2_with fail
     all_goals
      go_meet;exact⟨by first|rfl|(rw [decide_eq_true (by have:=HG.out;omega)];done)|(rw [decide_eq_false (by have:=HG.out;omega)];done),rfl⟩
    ·have HG:=qH g1
     obtain rfl:=NB.out (λ q=>by have h1:=q.2.1;omega);clear he;go_wp2_with fail
     all_goals
      go_meet;exact⟨by first|rfl|(rw [decide_eq_true (by have:=HG.out;omega)];done)|(rw [decide_eq_false (by have:=HG.out;omega)];done),rfl⟩
    ·have HG:=qH g1
     have i1:¬o<8:=by omega
     have i2:o<=8:=by omega
     have i3:0<=o:=by omega
     have i4:¬sl<=0:=by omega
     obtain rfl:=NB.out (λ q=>by have h1:=q.2.1;have h2:=q.2.2.1;omega);clear he g1;go_wp2_with fail
     all_goals
      go_meet;exact⟨by rfl,rfl⟩
    ·have HG:=qH g5
     obtain rfl:=NB.out (λ q=>by have h1:=q.2.2.2.2;omega);clear he g5;go_wp2_with fail
     all_goals
      go_meet;exact⟨by rw [decide_eq_false (by have:=HG.out;omega)],rfl⟩
    ·have HG:=qH g5
     obtain rfl:=HBE.out.2 ⟨g1,by omega,g3,by omega,g5⟩;clear he g5;go_wp2_with fail
     all_goals
      go_meet;exact⟨by rw [decide_eq_true (by have:=HG.out;omega)],rfl⟩
   case rest=>
    obtain⟨rfl,hwc⟩:=hcut;obtain rfl:=hwc.symm;have BW7:=qH (L7.out.bel);clear he;have hn1:=lnew_gen (w:=w7) (A:=some ⟨A,0,none⟩) (C:=some ⟨C,0,none⟩) (o:=o) (sl:=sl) (e:=e) (β:=β) (λ W hb=>lright_gen DK o sl e (L7.out.ac.later DK hb) bo.1 bo.2 bs.1 bs.2 (by decide) β HBE.out);go_wp2_with fail;refine hn1.mono ?_;clear hn1;rintro e' w8 ⟨⟨q,rfl,hq⟩,hb8⟩;have B8:=qH (BW7.out.trans (hb8.mono BW7.out.size));have L8:=qH (L7.out.later DK hb8);clear hb8 a0 a1 a2
    cases q
    all_goals
     subst hq;have hn2:=lnew_gen (w:=w8) (A:=none) (C:=some ⟨C,0,none⟩) (o:=0) (sl:=1) (e:=0) (β:=false) (λ W hb=>lright_nilA C F T 2 1 0 1 0 W (L8.out.ac.c.later hb));go_wp2_with fail;refine hn2.mono ?_;clear hn2;rintro e' w9 ⟨⟨q,rfl,hq⟩,hb9⟩;have B9:=qH (B8.out.trans (hb9.mono B8.out.size));clear hb9;obtain rfl:q=none:=by cases q<;>simp_all
     clear hq;have hn3:=lnew_gen (w:=w9) (A:=some ⟨A,0,none⟩) (C:=none) (o:=0) (sl:=1) (e:=0) (β:=false) (λ W hb=>lright_nilC (some ⟨A,0,none⟩) 0 1 0 W);go_wp2_with fail;refine hn3.mono ?_;clear hn3;rintro e' w10 ⟨⟨q,rfl,hq⟩,hb10⟩;have B10:=qH (B9.out.trans (hb10.mono B9.out.size));clear hb10;obtain rfl:q=none:=by cases q<;>simp_all
     clear hq;go_wp2_with fail;refine(HLG w10 (HN.out.keep B10.out)).mono ?_;rintro e' wz ⟨rfl,hbz⟩;go_wp2_with fail;go_ret;exact⟨rfl,B10.out.trans (hbz.mono B10.out.size)⟩
end
section
open Go.ChangeShapes Go.WideShapes Go.ChangeAt Go.RowKit Go.Proofs Go.Deep
set_option maxRecDepth 100000
theorem cells_area18:Tryz.prog.cellsOf 26=3:=by kernel_rfl
section
variable {H:Type}{enc:TypeId × Value->H}{w:World}{base:Nat}{held:Bool}{fuel:Nat}
theorem arg_area18 {v:Value}{d:DataW H}{p:List MemPlace}{r:Reach}{b0:Nat}(hv:Value.okWide Tryz.prog w r b0 26 v)(h:DataW.Trod enc Tryz.prog w base (λ _=>true) held 26 v d p):
  ∃(o sl:Int) (e:Nat),v= .agg #[.int .i64 o, .int .i64 sl, .int .u64 (e:Int)]∧(-9223372036854775808<=o∧o<9223372036854775808)∧(-9223372036854775808<=sl∧sl<9223372036854775808)∧e<18446744073709551616:=by
 obtain⟨c0,c1,c2,y0,y1,y2,m,rfl,rfl,rfl,hy0,hy1,hy2⟩:=Go.Joins.open_agg3 Tryz.underlying26 (by kernel_rfl) cells_area18 hv h;obtain⟨x,e0,_,wx⟩:=DataW.trod_int Tryz.underlying3 hy0;obtain⟨y,e1,_,wy⟩:=DataW.trod_int Tryz.underlying3 hy1;obtain⟨z,e2,_,wz⟩:=DataW.trod_int Tryz.underlying24 hy2;injection e0 with e0
 injection e1 with e1
 injection e2 with e2
 subst e0 e1 e2;have:=bounds_u64 wz;exact⟨x,y,z.toNat,by rw [show ((z.toNat:Nat):Int)=z from by omega],by have:=bounds_i64 wx;omega,by have:=bounds_i64 wy;omega,by omega⟩
end
end
section
open Go.ChangeShapes Go.WideShapes Go.ChangeAt Go.RowKit Go.Proofs Go.Deep
set_option maxRecDepth 100000
section
variable {H:Type}{enc:TypeId × Value->H}{w:World}{base:Nat}{held:Bool}{fuel:Nat}
theorem arg_rec17 {v:Value}{d:DataW H}{p:List MemPlace}{r:Reach}{b0:Nat}(hv:Value.okWide Tryz.prog w r b0 42 v)(h:DataW.Trod enc Tryz.prog w base (λ _=>true) held 42 v d p):
  ∃(st:Nat) (A:Option Addr) (cp:Nat) (vs:List CvF),v= .agg #[.int .u64 (st:Int), .slice A vs.length cp]∧st<18446744073709551616∧Chs w A vs.length cp vs∧∀x∈vs,x.x.g<18446744073709551616:=by
 obtain⟨c0,c1,y0,y1,m,rfl,rfl,rfl,hy0,hf⟩:=Go.Joins.open_agg2 Tryz.underlying42 (by kernel_rfl) cells_rec17 hv h;obtain⟨a0,e0,_,w0⟩:=DataW.trod_int Tryz.underlying24 hy0;injection e0 with e0
 subst e0;have b0:=bounds_u64 w0;have q0:((a0.toNat:Nat):Int)=a0:=by omega
 rcases open_slice Tryz.underlying40 hf with ⟨hcs,_⟩|⟨a,len,cap,m,n,d0,pl17,hcs,_,hl,hm,hmm,_,hi⟩
 ·injection hcs with hcs
  subst hcs;exact⟨a0.toNat,none,0, [],by rw [q0];rfl,by omega,⟨rfl,Nat.le_refl _,by decide,λ i x hx=>by simp at hx⟩,λ x hx=>by cases hx⟩
 ·injection hcs with hcs
  subst hcs;simp only [if_true] at hmm;have each:∀i,i<len->∃x:CvF,(∀(j:Nat) u,x.vals[j]? =some u->w.cell? ((a.add (i*5)).add j)=some u)∧x.Ok w∧x.x.g<18446744073709551616:=by
   intro i hi';obtain⟨cs',hc,ht⟩:=hi i (by omega);obtain⟨x,rfl,hx⟩:=change17_of ht;rw [cells_chg17] at hc;obtain⟨_,_,hat⟩:=World.cells?_some hc;refine⟨x,λ j u hu=> ?_,hx⟩;have hj:j<5:=by
    rcases Nat.lt_or_ge j 5 with h' |h'
    ·exact h'
    ·rw [List.getElem?_eq_none (by simpa [CvF.vals] using h')] at hu;cases hu
   rw [hat j hj,hu]
  obtain⟨y,hy⟩:=choose_lt each;refine⟨a0.toNat,some a,cap,(List.range len).map y,by simp [q0],by omega,⟨by simp,by simpa using hl,hm,λ i x hx=> ?_⟩,λ x hx=> ?_⟩
  ·have hin:i<len:=by
    rcases Nat.lt_or_ge i len with h' |h'
    ·exact h'
    ·rw [List.getElem?_eq_none (by simpa using h')] at hx;cases hx
   rw [List.getElem?_map,List.getElem?_range hin,Option.map_some] at hx;injection hx with hx
   obtain⟨hcell,hs,_⟩:=hy i hin;rw [hx] at hcell hs;obtain⟨b,o,spot⟩:=a;have hspot:spot=none:=by
    have h0:=(hy 0 (by omega)).1 0 _ rfl
    simpa [Addr.add] using World.cell?_spot h0
   subst hspot;simp only [Addr.add_lit] at hcell;exact⟨b,o,rfl,hcell,hs⟩
  ·obtain⟨i,hi2,rfl⟩:=List.mem_map.1 hx
   exact(hy i (List.mem_range.1 hi2)).2.2
end
end
end Go.Proofs.YtmhejbihdghhaaaGreatDoor

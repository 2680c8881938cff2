/-
  What of package stripe values are put and got by ('StrV'): with as many shards as are wanted (out of 'StrK')
-/
import Derived.Test.YtmhejbihdghhaaaGreatDoorPb
import Derived.Test.YtmhejbihdghhaaaGreatDoorGa
import Derived.Deep.MidRow
import Derived.Test.YtmhejbihdghhaaaGreatDoorQcag
import Derived.Test.YtmhejbihdghhaaaGreatDoorQcab
import Derived.Test.YtmhejbihdghhaaaGreatDoorEqt
import Derived.Shelf.Abstract
import Derived.Lib.SmallJoins
import Derived.Deep.Slices
import Derived.Deep.Fields
namespace Go.Proofs.YtmhejbihdghhaaaGreatDoor
set_option linter.unusedVariables false
section
open Go.RowKit Go.Proofs
structure StrV (Rep:World->(Nat->Prop)->Nat->Dv->Prop)(Good:Nat->Nat->(Nat->Bool)->Prop):Prop where
 put:∀{w:World} {S:Nat->Prop} {A C k m F T N:Nat} {xs:List Dv} (kd:UInt8) (p g:Nat) (b:List UInt8) (A2:Option Addr) (c2:Nat),Ac13 Rep w S A C k m F T N xs->RefOk kd p g b.length (44*k)->p<N->Sl w 1 A2 b.length c2 (cells b)->
  Calls Tryz.prog 52 #[.pointer (some ⟨A,0,none⟩), .pointer (some ⟨C,0,none⟩), .agg #[.int .u8 (kd.toNat:Int), .int .i64 (p:Int), .int .u64 (g:Int)], .slice A2 b.length c2] w λ e w' =>e= .returned (.tuple #[.int .i64 (cntG (k+m) (jhb xs):Nat), .int .i64 0])∧MutA Rep S A (jaS k (k+m) kd p g b xs) w w'
 get:∀{w:World} {S:Nat->Prop} {A C k m F T N:Nat} {xs:List Dv} {kd:UInt8} {p g:Nat} {b:List UInt8} {G:Nat->Bool},Ac13 Rep w S A C k m F T N xs->RefOk kd p g b.length (44*k)->p<N->Str xs k (k+m) N kd p g b G->Good k (k+m) G->
  Calls Tryz.prog 113 #[.pointer (some ⟨A,0,none⟩), .pointer (some ⟨C,0,none⟩), .agg #[.int .u8 (kd.toNat:Int), .int .i64 (p:Int), .int .u64 (g:Int)]] w λ e w' =>∃A2 n2 c2,e= .returned (.tuple #[.slice A2 n2 c2, .int .i64 0])∧NewB w A2 n2 c2 b w'
 room:∀{w:World} {C k m F T:Nat},Cod w C k m F T->Calls Tryz.prog 88 #[.pointer (some ⟨C,0,none⟩)] w λ e w' =>e= .returned (.int .i64 ((44*k:Nat):Int))∧w' =w
theorem strV_any {Rep:World->(Nat->Prop)->Nat->Dv->Prop}(DK:DrvK Rep):StrV Rep (λ k n G=>k<=cntG n G) where
 put:=λ kd p g b A2 c2 h hr hp hs=>jnD DK kd p g b A2 c2 rfl rfl h hr hp hs
 get:=λ {w S A C k m F T N xs kd p g b G} h hr hp hs hG=>(jh3 DK rfl rfl h hr hp hs).mono λ e w' hh=>by
  rw [if_pos hG,if_pos hG] at hh;exact hh
 room:=λ h=>jfB h
def StrL (Rep:World->(Nat->Prop)->Nat->Dv->Prop):Prop:=∀(w:World) (S:Nat->Prop) (A C k m F T N:Nat) (xs:List Dv) (kd:UInt8) (p g:Nat) (b:List UInt8) (G:Nat->Bool),Ac13 Rep w S A C k m F T N xs->RefOk kd p g b.length (44*k)->p<N->Str xs k (k+m) N kd p g b G->¬k<=cntG (k+m) G->
  Calls Tryz.prog 113 #[.pointer (some ⟨A,0,none⟩), .pointer (some ⟨C,0,none⟩), .agg #[.int .u8 (kd.toNat:Int), .int .i64 (p:Int), .int .u64 (g:Int)]] w λ e w' =>∃A2 n2 c2,e= .returned (.tuple #[.slice A2 n2 c2, .int .i64 130])∧Below w.heap.size w w'
theorem strL_any {Rep:World->(Nat->Prop)->Nat->Dv->Prop}(DK:DrvK Rep):StrL Rep:=λ w S A C k m F T N xs kd p g b G h hr hp hs hG=>(jh3 DK rfl rfl h hr hp hs).mono λ e w' hh=>by
 rw [if_neg hG,if_neg hG] at hh;obtain⟨A2,n2,c2,h1,h2⟩:=hh;exact⟨A2,n2,c2,h1,h2.2.1⟩
end
section
open Go.RowKit Go.Proofs
theorem jaj {P:Program}{ops:Array Oper}{Q:Exit->Act->World->Prop}{d:Nat}{op:Op}{ty:TypeId}{pos:String}{af:Array Edge}{gd:Option (Tmp × Bool)}{rest:List Oper}{a:Act}{w:World}(h:wpList P ops Q (⟨some d,op,ty,pos,af,gd⟩::rest) a w):wpList P ops Q (⟨some d,op,ty,pos,af,gd⟩::rest) a w:=h
theorem jad {P:Program}{ops:Array Oper}{rest:List Oper}{o:Oper}{a:Act}{w:World}{Q:Exit->Act->World->Prop}(hgd:Region.wanted o (yielded ops a.tmps)=true)(v:Value)(w':World)(hr:(execOp a.eval o).run P w= .ok (.value v) w')(hk:wpList P ops Q rest (a.put o.dst v) w'):wpList P ops Q (o::rest) a w:=by
 unfold wpList;rw [if_pos hgd]
 left
 unfold Oper.wp;rw [hr];exact hk
theorem jah {P:Program}{ρ:Operand->Value}{o:Oper}{x:Operand}{w:World}{b k:Nat}{ty:TypeId}{cs:List Value}{d:TypeDesc}(ho:o.op= .load ty x)(hx:ρ x= .pointer (some ⟨b,k,none⟩))(hc:w.rangeAt b k cs)(hu:P.underlying ty=some d)(hd:d.isRow=true)(hi:(P.info? ty).map (·.size)=some cs.length):(execOp ρ o).run P w= .ok (.value (.agg cs.toArray)) w:=by
 unfold execOp;simp only [ho,hx,Instr.loadAt,Instr.sureAddr,Sem.run_bind,Sem.run_pure,Result.andThen_ok,run_loadVar_mid w b k ty cs d hc hu hd hi]
end
section
open Go.RowKit Go.Proofs
set_option maxRecDepth 20000
set_option maxHeartbeats 1600000
structure ChF where
 key:ByteArray
 dead:Bool
 ps:List Int
 g:Nat
 q:Int
def gtK (a b:ByteArray):Bool:= !(Op.bytesLess a.toList b.toList||a.toList==b.toList)
def okC (x:ChF):Bool:=if x.dead then decide (x.g=0) && (decide (x.q=0) && decide (x.ps.length=0)) else !(decide (x.q<0)||(decide (400<x.q)||decide (400<x.ps.length))) && !(x.ps.any λ p=>decide (p<0)||decide (599<p))
def okCs:ByteArray->List ChF->Bool
 |_, []=>true
 |a,x::r=>gtK x.key a && (decide (x.key.size<=16) && (okC x && okCs x.key r))
def okR (cs:List ChF):Bool:=decide (cs.length<=16) && okCs ⟨#[]⟩ cs
structure CvF where
 x:ChF
 A:Option Addr
 c:Nat
def CvF.vals (v:CvF):List Value:= [.string v.x.key, .bool v.x.dead, .slice v.A v.x.ps.length v.c, .int .u64 (v.x.g:Int), .int .i64 v.x.q]
def CvF.Ok (w:World)(v:CvF):Prop:=Sl w 1 v.A v.x.ps.length v.c (jau v.x.ps)
theorem CvF.Ok.below {w w':World}{v:CvF}(h:v.Ok w)(hb:Below w.heap.size w w'):v.Ok w':=Sl.below h hb (Nat.le_refl _)
def CvB (w:World)(B:Nat)(v:CvF):Prop:=w.heap[B]? =some (.cells v.vals.toArray 144 (0,0))
section
variable {w w':World}{B:Nat}{v:CvF}
theorem CvB.c0 (h:CvB w B v):w.cell? ⟨B,0,none⟩=some (.string v.x.key):=by rw [cell_of_row _ _ _ _ _ _ h];rfl
theorem CvB.c1 (h:CvB w B v):w.cell? ⟨B,1,none⟩=some (.bool v.x.dead):=by rw [cell_of_row _ _ _ _ _ _ h];rfl
theorem CvB.c2 (h:CvB w B v):w.cell? ⟨B,2,none⟩=some (.slice v.A v.x.ps.length v.c):=by rw [cell_of_row _ _ _ _ _ _ h];rfl
theorem CvB.c3 (h:CvB w B v):w.cell? ⟨B,3,none⟩=some (.int .u64 (v.x.g:Int)):=by rw [cell_of_row _ _ _ _ _ _ h];rfl
theorem CvB.c4 (h:CvB w B v):w.cell? ⟨B,4,none⟩=some (.int .i64 v.x.q):=by rw [cell_of_row _ _ _ _ _ _ h];rfl
theorem CvB.later (h:CvB w B v)(hb:Below w.heap.size w w'):CvB w' B v:=(hb.block _ (block_lt h)).trans h
theorem CvB.fr {S:Nat->Prop}(h:CvB w B v)(hf:Fr S w w')(hS:¬S B):CvB w' B v:=hf.row_some h hS
theorem CvB.new:CvB (w.alloc (.cells v.vals.toArray 144)) w.heap.size v:=heap_alloc_new w _
end
structure Chs (w:World)(A:Option Addr)(n c:Nat)(l:List CvF):Prop where
 len:l.length=n
 cap:n<=c
 top:c<=maxLen
 cell:∀(i:Nat) (v:CvF),l[i]? =some v->∃b o,A=some ⟨b,o,none⟩∧(∀(j:Nat) u,v.vals[j]? =some u->w.cell? ⟨b,o+i*5+j,none⟩=some u)∧v.Ok w
theorem Chs.below {w w':World}{A:Option Addr}{n c:Nat}{l:List CvF}(h:Chs w A n c l)(hb:Below w.heap.size w w'):Chs w' A n c l:=
 ⟨h.len,h.cap,h.top,λ i x hx=>by
  obtain⟨b,o,e,h1,h2⟩:=h.cell i x hx;exact⟨b,o,e,λ j u hu=>(hb.cell (p:=⟨b,o+i*5+j,none⟩) (World.block_lt_of_cell? w _ (h1 j u hu))).trans (h1 j u hu),h2.below hb⟩⟩
theorem jfO (v:CvF):(Tryz.prog.info? 144).map (·.size)=some v.vals.toArray.size:=by show _=some 5;kernel_rfl
theorem jkt (v:CvF):v.vals.toArray.all (·.oneCell')=true:=all_oneCell_toArray (λ u hu=>by simp [CvF.vals] at hu;rcases hu with rfl|rfl|rfl|rfl|rfl<;>rfl)
section
variable (g:Nat)(eg:∀args w,(callFunc g args).run Tryz.prog w= .ok (.enter g args) w)(d:Int->Bool)
include eg
theorem jjz (A:Option Addr)(n c:Nat)(l:List Int)(w:World)(h:Sl w 1 A n c (jau l))(hd:∀z,z∈l->Calls Tryz.prog g #[.int .i64 z] w λ e w' =>e= .returned (.bool (d z))∧w' =w):
  Calls Tryz.prog 260 #[.slice A n c, .func (.func g) #[] #[]] w
   λ e w' =>w' =w∧((e= .returned (.int .i64 (-1))∧l.any d=false)∨∃k:Nat,e= .returned (.int .i64 (k:Int))∧l.any d=true):=by
 have hn:=h.lim;unfold maxLen at hn;have hl:=h.len;rw [jaM,Nat.mul_one] at hl;have Hs:=qH h;clear h;have Hl:=qH hl;clear hl;have HD:=qH hd;clear hd;go_enter Tryz.func260,Tryz.ntmps260;go_wp2_with fail;go_loopw [8] (λ i wr=>∃k:Nat,k<=n∧i= .int .i64 (k:Int)∧wr=w∧∀j (hj:j<l.length),j<k->d l[j]=false) (λ i _=>n-(intOf i).toNat)
 case atStart=>exact⟨0,by omega,rfl,rfl,λ j _ hj=>absurd hj (by omega)⟩
 case round=>
  obtain⟨k,hk,rfl,hwr,hz⟩:=hrel;obtain rfl:w=wr:=hwr.symm;have Hz:=qH hz;clear hz
  by_cases hlt:k<n
  ·have hkl:k<l.length:=by rw [Hl.out];exact hlt
   obtain⟨b1,o1,rfl,hc⟩:=Hs.out.at_ hlt;have hcell:=hc k _ (jcg l k hkl);have hh:=HD.out l[k] (List.getElem_mem hkl);clear hc;obtain⟨z,hzz⟩:∃z,z=l[k]:=⟨_,rfl⟩;rw [<-hzz] at hcell hh;have Hzz:=qH hzz;clear hzz
   cases hx:d z
   ·rw [hx] at hh
    have Hx:=qH hx;clear hx;go_wp2_with fail;refine hh.mono ?_;clear hh;rintro e w' ⟨rfl,hww⟩;obtain rfl:w=w':=hww.symm;go_wp2_with fail;go_roundw
    case rel=>exact⟨k+1,by omega,by go_num,trivial,λ j hj hjk=>by
     by_cases he:j=k
     ·subst he;rw [<-Hzz.out];exact Hx.out
     ·exact Hz.out j hj (by omega)⟩
    case measure=>simp [intOf];omega
   ·rw [hx] at hh
    have Hx:=qH hx;clear hx;go_wp2_with fail;refine hh.mono ?_;clear hh;rintro e w' ⟨rfl,hww⟩;obtain rfl:w=w':=hww.symm;go_wp2_with fail;go_ret;refine⟨rfl, .inr ⟨k,rfl, ?_⟩⟩;rw [List.any_eq_true];exact⟨l[k],List.getElem_mem hkl,by rw [<-Hzz.out];exact Hx.out⟩
  ·obtain rfl:n=k:=by omega
   go_wp2_with fail;go_ret;refine⟨rfl, .inl ⟨rfl, ?_⟩⟩;intro z hz;obtain⟨j,hj,rfl⟩:=List.mem_iff_getElem.1 hz;exact Hz.out j hj (by rw [<-Hl.out];exact hj)
theorem jdo (A:Option Addr)(n c:Nat)(l:List Int)(w:World)(h:Sl w 1 A n c (jau l))(hd:∀z,z∈l->Calls Tryz.prog g #[.int .i64 z] w λ e w' =>e= .returned (.bool (d z))∧w' =w):
  Calls Tryz.prog 230 #[.slice A n c, .func (.func g) #[] #[]] w λ e w' =>e= .returned (.bool (l.any d))∧w' =w:=by
 have hh:=jjz g eg d A n c l w h hd;clear h hd;obtain⟨x,hx⟩:∃x,x=l.any d:=⟨_,rfl⟩;rw [<-hx] at hh ⊢;clear hx;go_enter Tryz.func230,Tryz.ntmps230;go_wp2_with fail;refine hh.mono ?_;clear hh;rintro e w' ⟨rfl,⟨rfl,rfl⟩|⟨d,rfl,rfl⟩⟩
 ·go_wp2_with fail
  go_ret;exact⟨rfl,rfl⟩
 ·have hd:decide ((d:Int)≥0)=true:=by simp
  go_wp2_with fail;go_ret;exact⟨rfl,rfl⟩
end
theorem jnZ (z:Int)(w:World):Calls Tryz.prog 231 #[.int .i64 z] w λ e w' =>e= .returned (.bool (decide (z<0)||decide (599<z)))∧w' =w:=by
 by_cases c:z<0
 ·rw [decide_eq_true c]
  go_enter Tryz.func231,Tryz.ntmps231;go_wp2_with fail;go_ret;exact⟨rfl,rfl⟩
 ·rw [decide_eq_false c]
  by_cases c2:599<z
  ·rw [decide_eq_true c2]
   go_enter Tryz.func231,Tryz.ntmps231;go_wp2_with fail;go_ret;exact⟨rfl,rfl⟩
  ·rw [decide_eq_false c2]
   go_enter Tryz.func231,Tryz.ntmps231;go_wp2_with fail;go_ret;exact⟨rfl,rfl⟩
def outV (x:ChF)(dead:Bool):Array Value:= #[.string x.key, .bool dead, .int .u64 (x.g:Int), .int .i64 x.q, .int .i64 (x.ps.length:Int)]
theorem jax {P:Program}{ops:Array Oper}{Q:Exit->Act->World->Prop}{t:TypeId}{x y:Operand}{ty:TypeId}{pos:String}{af:Array Edge}{gd:Option (Tmp × Bool)}{rest:List Oper}{a:Act}{w:World}(h:wpList P ops Q (⟨none, .store t x y,ty,pos,af,gd⟩::rest) a w):wpList P ops Q (⟨none, .store t x y,ty,pos,af,gd⟩::rest) a w:=h
theorem jam {P:Program}{ops:Array Oper}{rest:List Oper}{o:Oper}{a:Act}{Q:Exit->Act->World->Prop}(hgd:o.guard=none)(ty:TypeId)(x y:Operand)(ho:o.op= .store ty x y)(w0:World)(old new:Array Value)(t:TypeId)
  (hx:a.eval x= .pointer (some ⟨w0.heap.size,0,none⟩))(hy:a.eval y= .agg new)(hi:(P.info? ty).map (·.size)=some new.size)(hold:old.size=new.size)(h1:new.all (·.oneCell')=true)
  (h:wpList P ops Q rest (a.put o.dst undef) (w0.alloc (.cells new t))):wpList P ops Q (o::rest) a (w0.alloc (.cells old t)):=
 wpList_store_row hgd ty x y ho w0.heap.size new hx hy t old (heap_alloc_new w0 _) hi hold h1 (by rw [World.setRow_alloc_new];exact h)
theorem jpM (x:ChF)(b:Bool):(Tryz.prog.info? 332).map (·.size)=some (outV x b).size:=by show _=some 5;kernel_rfl
theorem jru (x:ChF)(b:Bool):(outV x b).all (·.oneCell')=true:=all_oneCell_toArray (cs:= [.string x.key, .bool b, .int .u64 (x.g:Int), .int .i64 x.q, .int .i64 (x.ps.length:Int)]) (λ u hu=>by simp only [List.mem_cons,List.not_mem_nil,or_false] at hu;rcases hu with rfl|rfl|rfl|rfl|rfl<;>rfl)
theorem jfP (v:CvF)(w:World):Calls Tryz.prog 229 #[.agg v.vals.toArray] w λ e w' =>e= .returned (.agg (outV v.x v.x.dead))∧Below w.heap.size w w':=by
 have hb1:Below w.heap.size w (w.alloc (.cells v.vals.toArray 144)):=(Below.refl _ _).alloc (Nat.le_refl _) _;have hx:=CvB.new (w:=w) (v:=v);obtain⟨w1,hw1⟩:∃x,x=w.alloc (.cells v.vals.toArray 144):=⟨_,rfl⟩;have HW1:=qH hw1;rw [<-hw1] at hx hb1;have X2:=qH (hx.later (show Below w1.heap.size w1 (w1.alloc (.cells #[.string ⟨#[]⟩, .bool false, .int .u64 0, .int .i64 0, .int .i64 0] 332)) from (Below.refl _ _).alloc (Nat.le_refl _) _));have B1:=qH hb1;have HSZ:=qH (jpM v.x v.x.dead);have HON:=qH (jru v.x v.x.dead);have c0:=X2.out.c0;have c1:=X2.out.c1;have c2:=X2.out.c2;have c3:=X2.out.c3;have c4:=X2.out.c4;clear hb1 hx hw1;have hv:(Value.agg v.vals.toArray).cells=v.vals.toArray:=by simp [Value.cells]
 go_enter Tryz.func229,Tryz.ntmps229;go_wp2_with (first|(rw [<-HW1.out])|(refine jax ?_;refine jam (o:=⟨none,_,_,_,_,_⟩) rfl 332 (.tmp 2) (.tmp 17) rfl w1 _ (outV v.x v.x.dead) 332 rfl rfl HSZ.out rfl HON.out ?_));refine bodyPost_ret (results_cell_row Tryz.results229 _ _ w1.heap.size 332 _ (0,0) _ rfl (heap_alloc_new w1 _) Tryz.underlying332 rfl HSZ.out) rfl ⟨rfl,B1.out.trans ((Below.refl _ _).alloc B1.out.size _)⟩
theorem jpN : (Tryz.prog.fieldsOf 332).toList.map (fun f => (decide (f.name ≠ "_"), f.type, f.offset)) = [(true, 9, 0), (true, 4, 1), (true, 24, 2), (true, 3, 3), (true, 3, 4)] := by kernel_rfl
theorem jrv:Tryz.prog.underlying 332=some (.struct (Tryz.prog.fieldsOf 332)):=by kernel_rfl
theorem jn0:Tryz.prog.stoodInHeld 332=false:=by kernel_rfl
theorem jrw:Tryz.prog.eqGuardType Tryz.prog.depth 332=false:=by kernel_rfl
def eqO (x y:ChF)(a b:Bool):Bool:=(x.key.toList==y.key.toList) && ((a==b) && (((x.g:Int)==(y.g:Int)) && ((x.q==y.q) && (((x.ps.length:Int)==(y.ps.length:Int)) && true))))
theorem eq_out (w:World)(x y:ChF)(a b:Bool):(Op.equalIn 10000 332 (.agg (outV x a)) (.agg (outV y b))).run Tryz.prog w= .ok (eqO x y a b) w:=by
 have h0:=run_equalIn_struct (P:=Tryz.prog) w 9999 332 (outV x a) (outV y b) jrv jn0;rw [jdy,jpN] at h0;exact h0.trans (jkJ (P:=Tryz.prog) (d:=9998) w Tryz.underlying9 (o:=0) (xs:=outV x a) (ys:=outV y b) rfl rfl _ (jiH w Tryz.underlying4 (o:=1) rfl rfl _ (jed w Tryz.underlying24 (o:=2) rfl rfl _ (jed w Tryz.underlying3 (o:=3) rfl rfl _ (jed w Tryz.underlying3 (o:=4) rfl rfl [] (r:=true) rfl)))))
theorem jpO {ρ:Operand->Value}{o:Oper}{p q:Operand}{w:World}{x y:ChF}{a b:Bool}{T:TypeId}(ho:o.op= .binOp .eql 332 p q T)(hx:ρ p= .agg (outV x a))(hy:ρ q= .agg (outV y b)):(execOp ρ o).run Tryz.prog w= .ok (.value (.bool (eqO x y a b))) w:=by
 have h:(binOp .eql 332 (.agg (outV x a)) (.agg (outV y b))).run Tryz.prog w= .ok (.bool (eqO x y a b)) w:=by rw [run_eql_struct,eq_out];rfl
 have g':=λ op=>run_eqGuard_agg (P:=Tryz.prog) w op 332 p q (outV x a) (outV y b) jrw
 unfold execOp;simp [ho,hx,hy,h,g',Result.andThen]
theorem jbS {ρ:Operand->Value}{o:Oper}{x:Operand}{w:World}{B:Nat}{v:CvF}(ho:o.op= .load 144 x)(hx:ρ x= .pointer (some ⟨B,0,none⟩))(h:CvB w B v):(execOp ρ o).run Tryz.prog w= .ok (.value (.agg v.vals.toArray)) w:=by
 unfold execOp;simp only [ho,hx,Instr.loadAt,Instr.sureAddr,Sem.run_bind,Sem.run_pure,Result.andThen_ok,run_loadVar_row w B _ 144 v.vals.toArray (0,0) _ h Tryz.underlying144 rfl (jfO v)]
theorem jjA (v:CvF)(hd:v.x.dead=true)(w:World):Calls Tryz.prog 188 #[.agg v.vals.toArray] w λ e w' =>e= .returned (.bool (okC v.x))∧Below w.heap.size w w':=by
 have hb1:Below w.heap.size w (w.alloc (.cells v.vals.toArray 144)):=(Below.refl _ _).alloc (Nat.le_refl _) _;have hx:=CvB.new (w:=w) (v:=v);obtain⟨w1,hw1⟩:∃x,x=w.alloc (.cells v.vals.toArray 144):=⟨_,rfl⟩;have HW1:=qH hw1;rw [<-hw1] at hx hb1;have X:=qH hx;have B1:=qH hb1;have c1:=hx.c1;rw [hd] at c1;have HD:=qH hd;clear hb1 hx hw1 hd;have hv:(Value.agg v.vals.toArray).cells=v.vals.toArray:=by simp [Value.cells]
 go_enter Tryz.func188,Tryz.ntmps188;go_wp2_with (rw [<-HW1.out]);refine wp_region_held_drew (S:=λ w' =>Fr (λ _=>False) w1.drew w') (by kernel_rfl) (Fr.refl _ _) (λ hHeld=> ?_);clear hHeld;refine tL 0 (some 6) (v:= .agg v.vals.toArray) rfl ?yg0 (Fr.refl _ _) ?rg0
 case yg0=>
  intro wq hSw;exact jbS rfl rfl (X.out.fr ((Fr.of_below (Below.drew (Below.refl _ _))).trans hSw) (λ h=>h))
 try simp only [Act.put,sA,sB,sC]
 refine tA 2 (some 8) rfl (Fr.refl _ _) ?_;refine tL 3 (some 9) (v:= ?vg3) rfl ?yg3 (Fr.refl _ _) ?rg3
 case yg3=>
  intro wq hSw
  (try dsimp only at hSw)
  have hq:=(X.out.fr ((Fr.of_below (Below.drew (Below.refl _ _))).trans hSw) (λ h=>h)).c0;go_simp<;>with_reducible rfl
 try simp only [Act.put,sA,sB,sC]
 refine tA 4 (some 10) rfl (Fr.refl _ _) ?_;refine rW 1 (some 7) rfl λ K hK=> ?_
 go_simp;refine(jfP v w1.drew).mono ?_;rintro e w2 ⟨rfl,hb2⟩;have hfr:Fr (λ _=>False) w1.drew w2:=Fr.of_below hb2;have B2:=qH (B1.out.trans ((Below.drew (Below.refl _ _)).trans (hb2.mono B1.out.size)));clear hb2;go_wp2_with fail;refine hK.out _ _ hfr (λ hHeld=> ?_);clear hK K hHeld
 try simp only [Act.put,sA,sB,sC]
 refine jac (S':=λ w' =>Fr (λ _=>False) w2 w') (λ w' h=>hfr.trans h) ?_;clear hfr;refine rW 5 (some 11) rfl λ K hK=> ?_
 go_simp;refine(jfP ⟨⟨v.x.key,true, [],0,0⟩,none,0⟩ w2).mono ?_;rintro e w3 ⟨rfl,hb3⟩;have hfr:Fr (λ _=>False) w2 w3:=Fr.of_below hb3;have B3:=qH (B2.out.trans (hb3.mono B2.out.size));clear hb3;go_wp2_with fail;refine hK.out _ _ hfr (λ hHeld=> ?_);clear hK K hHeld
 try simp only [Act.put,sA,sB,sC]
 refine jac (S':=λ w' =>Fr (λ _=>False) w3 w') (λ w' h=>hfr.trans h) ?_;clear hfr;refine tL 6 (some 12) (v:= .bool (eqO v.x ⟨v.x.key,true, [],0,0⟩ v.x.dead true)) rfl ?yg6 (Fr.refl _ _) ?rg6
 case yg6=>
  intro wq hSw;exact jpO rfl rfl rfl
 try simp only [Act.put,sA,sB,sC]
 refine tA 7 (some 2) rfl (Fr.refl _ _) ?_;refine tD ?_;go_wp2_with fail;go_ret;refine⟨?_,B3.out⟩;have hd:=HD.out;unfold eqO okC;rw [hd]
 by_cases h1:v.x.g=0<;>by_cases h2:v.x.q=0<;>by_cases h3:v.x.ps.length=0<;>simp [h1,h2,h3]
theorem jku (A:Option Addr)(n c:Nat)(g:Nat)(q:Int):(Tryz.prog.info? 142).map (·.size)=some [Value.slice A n c, .int .u64 (g:Int), .int .i64 q].length:=by show _=some 3;kernel_rfl
theorem jif (v:CvF)(hd:v.x.dead=false)(w:World)(h:v.Ok w):Calls Tryz.prog 188 #[.agg v.vals.toArray] w λ e w' =>e= .returned (.bool (okC v.x))∧Below w.heap.size w w':=by
 have hlim:=Sl.lim h;unfold maxLen at hlim;have hb1:Below w.heap.size w (w.alloc (.cells v.vals.toArray 144)):=(Below.refl _ _).alloc (Nat.le_refl _) _;have hx:=CvB.new (w:=w) (v:=v);obtain⟨w1,hw1⟩:∃x,x=w.alloc (.cells v.vals.toArray 144):=⟨_,rfl⟩;have HW1:=qH hw1;rw [<-hw1] at hx hb1;have hr:w1.rangeAt w.heap.size 2 [.slice v.A v.x.ps.length v.c, .int .u64 (v.x.g:Int), .int .i64 v.x.q]:=λ j u hu=>by
  rcases j with _|_|_|j
  ·simp at hu;subst hu;exact hx.c2
  ·simp at hu;subst hu;exact hx.c3
  ·simp at hu;subst hu;exact hx.c4
  ·simp at hu
 have hb2:Below w1.heap.size w1 (w1.alloc (.cells #[.slice v.A v.x.ps.length v.c, .int .u64 (v.x.g:Int), .int .i64 v.x.q] 142)):=(Below.refl _ _).alloc (Nat.le_refl _) _;have hx2:=heap_alloc_new w1 (.cells #[.slice v.A v.x.ps.length v.c, .int .u64 (v.x.g:Int), .int .i64 v.x.q] 142);obtain⟨w2,hw2⟩:∃x,x=w1.alloc (.cells #[.slice v.A v.x.ps.length v.c, .int .u64 (v.x.g:Int), .int .i64 v.x.q] 142):=⟨_,rfl⟩;have HW2:=qH hw2;rw [<-hw2] at hx2 hb2;have hb:=hb1.trans (hb2.mono hb1.size);have d0:w2.cell? ⟨w1.heap.size,0,none⟩=some (.slice v.A v.x.ps.length v.c):=by rw [cell_of_row _ _ _ _ _ _ hx2];rfl
 have d2:w2.cell? ⟨w1.heap.size,2,none⟩=some (.int .i64 v.x.q):=by rw [cell_of_row _ _ _ _ _ _ hx2];rfl
 have c1:=hx.c1;rw [hd] at c1;have hcf:=jdo 231 (enters_of Tryz.func231 (by kernel_rfl) rfl) (λ p=>decide (p<0)||decide (599<p)) v.A v.x.ps.length v.c v.x.ps w2 (h.below hb) (λ z _=>jnZ z w2);have hok:okC v.x=(!(decide (v.x.q<0)||(decide (400<v.x.q)||decide (400<v.x.ps.length))) && !(v.x.ps.any λ p=>decide (p<0)||decide (599<p))):=by unfold okC;rw [hd];rfl
 obtain⟨r,hr2⟩:∃r,r=v.x.ps.any λ p=>decide (p<0)||decide (599<p):=⟨_,rfl⟩
 rw [<-hr2] at hcf hok;have HOK:=qH hok;have HR:=qH hr;have HB:=qH hb;have HSZ:=qH (jku v.A v.x.ps.length v.c v.x.g v.x.q);have HON:=qH (show (#[.slice v.A v.x.ps.length v.c, .int .u64 (v.x.g:Int), .int .i64 v.x.q]:Array Value).all (·.oneCell')=true from all_oneCell_toArray (cs:= [.slice v.A v.x.ps.length v.c, .int .u64 (v.x.g:Int), .int .i64 v.x.q]) (λ u hu=>by simp only [List.mem_cons,List.not_mem_nil,or_false] at hu;rcases hu with rfl|rfl|rfl<;>rfl));have HCF:=qH hcf;clear hb1 hx hw1 hd hr hb2 hx2 hw2 hb hr2 hok h hcf;have hv:(Value.agg v.vals.toArray).cells=v.vals.toArray:=by simp [Value.cells]
 by_cases h1:v.x.q<0
 ·have D1:=qH (decide_eq_true h1)
  go_enter Tryz.func188,Tryz.ntmps188;go_wp2_with (first|(rw [<-HW1.out])|(refine jaj (d:=14) ?_;refine wpList_load_mid (op:=⟨some 14,_,_,_,_,_⟩) rfl 142 (.tmp 13) rfl w.heap.size 2 rfl _ _ HR.out Tryz.underlying142 rfl HSZ.out ?_)|(refine jax ?_;refine jam (o:=⟨none,_,_,_,_,_⟩) rfl 142 (.tmp 3) (.tmp 14) rfl w1 _ _ 142 rfl rfl HSZ.out rfl HON.out ?_;rw [<-HW2.out]));go_ret;refine⟨?_,HB.out⟩;rw [HOK.out,D1.out];simp
 ·by_cases h2:400<v.x.q
  ·have D1:=qH (decide_eq_false h1)
   have D2:=qH (decide_eq_true h2);go_enter Tryz.func188,Tryz.ntmps188;go_wp2_with (first|(rw [<-HW1.out])|(refine jaj (d:=14) ?_;refine wpList_load_mid (op:=⟨some 14,_,_,_,_,_⟩) rfl 142 (.tmp 13) rfl w.heap.size 2 rfl _ _ HR.out Tryz.underlying142 rfl HSZ.out ?_)|(refine jax ?_;refine jam (o:=⟨none,_,_,_,_,_⟩) rfl 142 (.tmp 3) (.tmp 14) rfl w1 _ _ 142 rfl rfl HSZ.out rfl HON.out ?_;rw [<-HW2.out]));go_ret;refine⟨?_,HB.out⟩;rw [HOK.out,D1.out,D2.out];simp
  ·by_cases h3:400<v.x.ps.length
   ·have h3b:(400:Int)<(v.x.ps.length:Int):=by omega
    have D1:=qH (decide_eq_false h1);have D2:=qH (decide_eq_false h2);have D3:=qH (decide_eq_true h3);go_enter Tryz.func188,Tryz.ntmps188;go_wp2_with (first|(rw [<-HW1.out])|(refine jaj (d:=14) ?_;refine wpList_load_mid (op:=⟨some 14,_,_,_,_,_⟩) rfl 142 (.tmp 13) rfl w.heap.size 2 rfl _ _ HR.out Tryz.underlying142 rfl HSZ.out ?_)|(refine jax ?_;refine jam (o:=⟨none,_,_,_,_,_⟩) rfl 142 (.tmp 3) (.tmp 14) rfl w1 _ _ 142 rfl rfl HSZ.out rfl HON.out ?_;rw [<-HW2.out]));go_ret;refine⟨?_,HB.out⟩;rw [HOK.out,D1.out,D2.out,D3.out];simp
   ·have h3b:¬(400:Int)<(v.x.ps.length:Int):=by omega
    have D1:=qH (decide_eq_false h1);have D2:=qH (decide_eq_false h2);have D3:=qH (decide_eq_false h3);go_enter Tryz.func188,Tryz.ntmps188;go_wp2_with (first|(rw [<-HW1.out])|(refine jaj (d:=14) ?_;refine wpList_load_mid (op:=⟨some 14,_,_,_,_,_⟩) rfl 142 (.tmp 13) rfl w.heap.size 2 rfl _ _ HR.out Tryz.underlying142 rfl HSZ.out ?_)|(refine jax ?_;refine jam (o:=⟨none,_,_,_,_,_⟩) rfl 142 (.tmp 3) (.tmp 14) rfl w1 _ _ 142 rfl rfl HSZ.out rfl HON.out ?_;rw [<-HW2.out]));refine HCF.out.mono ?_;rintro e w3 ⟨rfl,hw3⟩;obtain rfl:w2=w3:=hw3.symm;go_wp2_with fail;go_ret;refine⟨?_,HB.out⟩;rw [HOK.out,D1.out,D2.out,D3.out];simp
end
section
open Go.ChangeShapes Go.WideShapes Go.ChangeAt Go.RowKit Go.Proofs Go.Deep
set_option maxRecDepth 100000
theorem jjB:Tryz.prog.cellsOf 9=1:=by kernel_rfl
theorem jig:Tryz.prog.cellsOf 4=1:=by kernel_rfl
theorem jeK:Tryz.prog.cellsOf 142=3:=by kernel_rfl
theorem jds:Tryz.prog.cellsOf 144=5:=by kernel_rfl
theorem jdt:Tryz.prog.cellsOf 42=2:=by kernel_rfl
theorem jjC:Tryz.prog.cellsOf 3=1:=by kernel_rfl
theorem jih:Tryz.prog.cellsOf 71=1:=by kernel_rfl
theorem jfQ:Tryz.prog.cellsOf 24=1:=by kernel_rfl
section
variable {H:Type}{enc:TypeId × Value->H}{w:World}{base:Nat}{held:Bool}{fuel:Nat}
theorem jjD {m:Nat}{c0:Value}{y:DataW H × List MemPlace}(h:DataW.trod enc Tryz.prog w base (λ _=>true) held m 71 [c0]=some y):
  ∃A cp,∃l:List Int,c0= .slice A l.length cp∧Sl w 1 A l.length cp (jau l):=by
 rcases open_ints Tryz.underlying71 Tryz.underlying3 (by kernel_rfl) h with ⟨hcs,_⟩|⟨x,l,c,zs,hcs,_,hl,hm,hz,_,hcell,hwz⟩
 ·injection hcs with hcs
  exact⟨none,0, [],hcs,Sl.nil w 1 0 (by decide)⟩
 ·injection hcs with hcs
  obtain⟨k,hk,hs,hb⟩:=IsRow.sli (.inr ⟨_,rfl,hl,hm,by simpa using hz,hcell,hwz⟩);subst hk;exact⟨_,_,k,hcs,hs⟩
theorem jn1 {cs:List Value}{y:DataW H × List MemPlace}(h:DataW.trod enc Tryz.prog w base (λ _=>true) held fuel 142 cs=some y):
  ∃A cp,∃l:List Int,∃(g:Nat) (q:Int),cs= [.slice A l.length cp, .int .u64 (g:Int), .int .i64 q]∧Sl w 1 A l.length cp (jau l)∧g<18446744073709551616:=by
 obtain⟨xs,m,_,_,hl,hxl,hf⟩:=DataW.trod_struct Tryz.underlying142 h;rw [jeK] at hl
 match cs,hl with
 | [c0,c1,c2],_=>
  match xs,hxl with
  | [y0,y1,y2],_=>
   have h0:DataW.trod enc Tryz.prog w base (λ _=>true) held m 71 (([c0,c1,c2].drop 0).take (Tryz.prog.cellsOf 71))=some y0:=hf 0 _ rfl;have h1:DataW.trod enc Tryz.prog w base (λ _=>true) held m 24 (([c0,c1,c2].drop 1).take (Tryz.prog.cellsOf 24))=some y1:=hf 1 _ rfl;have h2:DataW.trod enc Tryz.prog w base (λ _=>true) held m 3 (([c0,c1,c2].drop 2).take (Tryz.prog.cellsOf 3))=some y2:=hf 2 _ rfl;rw [jih] at h0;rw [jfQ] at h1;rw [jjC] at h2;obtain⟨A,cp,l,e0,hs⟩:=jjD (show DataW.trod enc Tryz.prog w base (λ _=>true) held m 71 [c0]=some y0 from h0);obtain⟨a1,e1,_,w1⟩:=DataW.trod_int Tryz.underlying24 (show DataW.trod enc Tryz.prog w base (λ _=>true) held m 24 [c1]=some y1 from h1);obtain⟨a2,e2,_,w2⟩:=DataW.trod_int Tryz.underlying3 (show DataW.trod enc Tryz.prog w base (λ _=>true) held m 3 [c2]=some y2 from h2);injection e1 with e1
   injection e2 with e2
   subst e0 e1 e2;have b1:=bounds_u64 w1;have q1:((a1.toNat:Nat):Int)=a1:=by omega
   exact⟨A,cp,l,a1.toNat,a2,by rw [q1],hs,by omega⟩
theorem jfR {cs:List Value}{y:DataW H × List MemPlace}(h:DataW.trod enc Tryz.prog w base (λ _=>true) held fuel 144 cs=some y):
  ∃v:CvF,cs=v.vals∧v.Ok w∧v.x.g<18446744073709551616:=by
 obtain⟨xs,m,_,_,hl,hxl,hf⟩:=DataW.trod_struct Tryz.underlying144 h;rw [jds] at hl
 match cs,hl with
 | [c0,c1,c2,c3,c4],_=>
  match xs,hxl with
  | [y0,y1,y2],_=>
   have h0:DataW.trod enc Tryz.prog w base (λ _=>true) held m 9 (([c0,c1,c2,c3,c4].drop 0).take (Tryz.prog.cellsOf 9))=some y0:=hf 0 _ rfl;have h1:DataW.trod enc Tryz.prog w base (λ _=>true) held m 4 (([c0,c1,c2,c3,c4].drop 1).take (Tryz.prog.cellsOf 4))=some y1:=hf 1 _ rfl;have h2:DataW.trod enc Tryz.prog w base (λ _=>true) held m 142 (([c0,c1,c2,c3,c4].drop 2).take (Tryz.prog.cellsOf 142))=some y2:=hf 2 _ rfl;rw [jjB] at h0;rw [jig] at h1;rw [jeK] at h2;obtain⟨k,e0,_⟩:=DataW.trod_string Tryz.underlying9 (show DataW.trod enc Tryz.prog w base (λ _=>true) held m 9 [c0]=some y0 from h0);obtain⟨d,e1,_⟩:=DataW.trod_bool Tryz.underlying4 (show DataW.trod enc Tryz.prog w base (λ _=>true) held m 4 [c1]=some y1 from h1);obtain⟨A,cp,l,g,q,e2,hs,hg⟩:=jn1 (show DataW.trod enc Tryz.prog w base (λ _=>true) held m 142 [c2,c3,c4]=some y2 from h2);injection e0 with e0
   injection e1 with e1
   injection e2 with e2 e3
   injection e3 with e3 e4
   injection e4 with e4
   subst e0 e1 e2 e3 e4;exact⟨⟨⟨k,d,l,g,q⟩,A,cp⟩,rfl,hs,hg⟩
instance:Inhabited CvF:=⟨⟨⟨⟨#[]⟩,false, [],0,0⟩,none,0⟩⟩
theorem arg_rec17 {v:Value}{d:DataW H}{p:List MemPlace}{r:Reach}{b0:Nat}(hv:Value.okWide Tryz.prog w r b0 42 v)(h:DataW.Trod enc Tryz.prog w base (λ _=>true) held 42 v d p):
  ∃(st:Nat) (A:Option Addr) (cp:Nat) (vs:List CvF),v= .agg #[.int .u64 (st:Int), .slice A vs.length cp]∧st<18446744073709551616∧Chs w A vs.length cp vs∧∀x∈vs,x.x.g<18446744073709551616:=by
 obtain⟨c0,c1,y0,y1,m,rfl,rfl,rfl,hy0,hf⟩:=Go.Joins.open_agg2 Tryz.underlying42 (by kernel_rfl) jdt hv h;obtain⟨a0,e0,_,w0⟩:=DataW.trod_int Tryz.underlying24 hy0;injection e0 with e0
 subst e0;have b0:=bounds_u64 w0;have q0:((a0.toNat:Nat):Int)=a0:=by omega
 rcases open_slice Tryz.underlying40 hf with ⟨hcs,_⟩|⟨a,len,cap,m,n,d0,pl17,hcs,_,hl,hm,hmm,_,hi⟩
 ·injection hcs with hcs
  subst hcs;exact⟨a0.toNat,none,0, [],by rw [q0];rfl,by omega,⟨rfl,Nat.le_refl _,by decide,λ i x hx=>by simp at hx⟩,λ x hx=>by cases hx⟩
 ·injection hcs with hcs
  subst hcs;simp only [if_true] at hmm;have each:∀i,i<len->∃x:CvF,(∀(j:Nat) u,x.vals[j]? =some u->w.cell? ((a.add (i*5)).add j)=some u)∧x.Ok w∧x.x.g<18446744073709551616:=by
   intro i hi';obtain⟨cs',hc,ht⟩:=hi i (by omega);obtain⟨x,rfl,hx⟩:=jfR ht;rw [jds] at hc;obtain⟨_,_,hat⟩:=World.cells?_some hc;refine⟨x,λ j u hu=> ?_,hx⟩;have hj:j<5:=by
    rcases Nat.lt_or_ge j 5 with h' |h'
    ·exact h'
    ·rw [List.getElem?_eq_none (by simpa [CvF.vals] using h')] at hu;cases hu
   rw [hat j hj,hu]
  obtain⟨y,hy⟩:=choose_lt each;refine⟨a0.toNat,some a,cap,(List.range len).map y,by simp [q0],by omega,⟨by simp,by simpa using hl,hm,λ i x hx=> ?_⟩,λ x hx=> ?_⟩
  ·have hin:i<len:=by
    rcases Nat.lt_or_ge i len with h' |h'
    ·exact h'
    ·rw [List.getElem?_eq_none (by simpa using h')] at hx;cases hx
   rw [List.getElem?_map,List.getElem?_range hin,Option.map_some] at hx;injection hx with hx
   obtain⟨hcell,hs,_⟩:=hy i hin;rw [hx] at hcell hs;obtain⟨b,o,spot⟩:=a;have hspot:spot=none:=by
    have h0:=(hy 0 (by omega)).1 0 _ rfl
    simpa [Addr.add] using World.cell?_spot h0
   subst hspot;simp only [Addr.add_lit] at hcell;exact⟨b,o,rfl,hcell,hs⟩
  ·obtain⟨i,hi2,rfl⟩:=List.mem_map.1 hx
   exact(hy i (List.mem_range.1 hi2)).2.2
end
end
section
def mkF (a z:Bool):UInt8:=(if a then 1 else 0) +(if z then 2 else 0)
def hdF (m:UInt8)(t:List UInt8):List UInt8:=m::le 2 t.length
def smF (m:UInt8)(t:List UInt8)(s:W32):W32:=more (more s (hdF m t)) t
def pcF (m:UInt8)(t:List UInt8)(s:W32):List UInt8:=hdF m t++le 4 (smF m t s).toNat++t
theorem jen (m:UInt8)(t:List UInt8):(hdF m t).length=3:=by simp [hdF,jak]
theorem jeo (m:UInt8)(t:List UInt8)(s:W32):(pcF m t s).length=t.length+7:=by simp [pcF,jen,jak];omega
theorem jeX (m:UInt8)(t:List UInt8)(s:W32):(pcF m t s).drop 7=t:=by
 have h:(hdF m t++le 4 (smF m t s).toNat).length=7:=by simp [jen,jak]
 have:=List.drop_left (l₁:=hdF m t++le 4 (smF m t s).toNat) (l₂:=t)
 rwa [h] at this
theorem jpP (m:UInt8)(t:List UInt8)(s:W32):(pcF m t s).take 3=hdF m t:=by
 have:=List.take_left (l₁:=hdF m t) (l₂:=le 4 (smF m t s).toNat++t);rw [jen] at this;rw [pcF,List.append_assoc];exact this
theorem jii (m:UInt8)(t:List UInt8)(s:W32):(pcF m t s).getD 0 0=m:=rfl
theorem jrx (m:UInt8)(t:List UInt8)(s:W32):((pcF m t s).drop 3).take 4=le 4 (smF m t s).toNat:=by
 have h:=List.drop_left (l₁:=hdF m t) (l₂:=le 4 (smF m t s).toNat++t);rw [jen] at h;rw [pcF,List.append_assoc,h];have h2:=List.take_left (l₁:=le 4 (smF m t s).toNat) (l₂:=t)
 rwa [jak] at h2
theorem jpQ (m:UInt8)(t:List UInt8)(s:W32):((pcF m t s).drop 1).take 2=le 2 t.length:=by
 have:(pcF m t s).drop 1=le 2 t.length ++(le 4 (smF m t s).toNat++t):=by simp [pcF,hdF]
 rw [this];have h2:=List.take_left (l₁:=le 2 t.length) (l₂:=le 4 (smF m t s).toNat++t)
 rwa [jak] at h2
def fmB (p:List UInt8)(a:Bool):Bool:=decide (7<=p.length) && (decide (p.length-7=jat ((p.drop 1).take 2)) && decide (p.getD 0 0 &&& 253=if a then 1 else 0))
def tdF (p:List UInt8):W32:=BitVec.ofNat 32 (jat ((p.drop 3).take 4))
def smP (s:W32)(p:List UInt8):W32:=more (more s (p.take 3)) (p.drop 7)
def lsB (p:List UInt8):Bool:=decide (p.getD 0 0 &&& 2≠0)
def joinL:W32->Bool->List UInt8->Nat->List (List UInt8)->List UInt8 × Nat × Nat
 |_,_,_,_, []=>([],0,170)
 |s,a,acc,k,p::r=>
  if fmB p a=false then([],0,3) else if tdF p≠smP s p then([],0,4) else if lsB p=true then(acc++p.drop 7,k+1,0) else joinL (tdF p) false (acc++p.drop 7) (k+1) r
def jaZ (l:List (List UInt8)):List UInt8 × Nat × Nat:=joinL 0 true [] 0 l
theorem jn2 (a z:Bool)(t:List UInt8)(s:W32)(h:t.length<65536):fmB (pcF (mkF a z) t s) a=true:=by
 rw [fmB,jeo,jpQ,jb5,jii,decide_eq_true (by omega),decide_eq_true (by rw [Nat.mod_eq_of_lt (by omega)];omega),Bool.true_and,Bool.true_and]
 cases a<;>cases z<;>rfl
theorem jkv (m:UInt8)(t:List UInt8)(s:W32):tdF (pcF m t s)=smF m t s:=by
 rw [tdF,jrx,jb5,Nat.mod_eq_of_lt (by have:=(smF m t s).isLt;omega)];simp
theorem jn3 (m:UInt8)(t:List UInt8)(s:W32):smP s (pcF m t s)=smF m t s:=by rw [smP,jpP,jeX];rfl
theorem jn4 (a z:Bool)(t:List UInt8)(s:W32):lsB (pcF (mkF a z) t s)=z:=by
 rw [lsB,jii]
 cases a<;>cases z<;>rfl
def jbd (long:Nat):Nat->Bool->W32->List UInt8->List (List UInt8)
 |0,_,_,_=> []
 |1,a,s,b=> [pcF (mkF a true) b s]
 |k+2,a,s,b=>pcF (mkF a false) (b.take long) s::jbd long (k+1) false (smF (mkF a false) (b.take long) s) (b.drop long)
theorem jkw (long:Nat):∀(k:Nat) (a:Bool) (s:W32) (b:List UInt8),(jbd long k a s b).length=k
 |0,_,_,_=>rfl
 |1,_,_,_=>rfl
 |k+2,a,s,b=>by rw [jbd,List.length_cons,jkw]
theorem jn5 (long j:Nat)(a:Bool)(s:W32)(b:List UInt8)(hb:b.length<=(j+1)*long):jbd long (j+1) a s b=pcF (mkF a (decide (j=0))) (b.take long) s::jbd long j false (smF (mkF a (decide (j=0))) (b.take long) s) (b.drop long):=by
 cases j with
 |zero=>rw [List.take_of_length_le (by simpa using hb)];rfl
 |succ j=>rfl
def jbT (long n:Nat):Nat:=(n-1) / long+1
theorem jhe {long n:Nat}(h:0<long):n<=jbT long n*long:=by
 unfold jbT;rw [Nat.add_mul,Nat.one_mul];have:=Nat.div_add_mod (n-1) long;have:=Nat.mod_lt (n-1) h;have e:long*((n-1) / long)=(n-1) / long*long:=Nat.mul_comm _ _;omega
theorem jkx {long n i:Nat}(h:0<long)(hi:i+1<jbT long n):(i+1)*long<n:=by
 unfold jbT at hi;have h1:(i+1)*long<=(n-1) / long*long:=Nat.mul_le_mul_right _ (by omega);have h2:=Nat.div_mul_le_self (n-1) long;have h3:0<(i+1)*long:=Nat.mul_pos (by omega) h;omega
def cutF (long:Nat)(b:List UInt8):List (List UInt8):=jbd long (jbT long b.length) true 0 b
theorem jij (long:Nat)(hl:long<65536):∀(k:Nat) (a:Bool) (s:W32) (b acc:List UInt8) (j:Nat) (r:List (List UInt8)),0<k->b.length<=k*long->
  joinL s a acc j (jbd long k a s b++r)=(acc++b,j+k,0)
 |0,_,_,_,_,_,_,h,_=>absurd h (by omega)
 |1,a,s,b,acc,j,r,_,hb=>by
  show joinL s a acc j (pcF (mkF a true) b s::r)=_
  rw [joinL,jn2 _ _ _ _ (by omega),if_neg (by decide),jkv,jn3,if_neg (by simp),jn4,if_pos rfl,jeX]
 |k+2,a,s,b,acc,j,r,_,hb=>by
  rw [jbd,List.cons_append];rw [joinL,jn2 _ _ _ _ (by rw [List.length_take];omega),if_neg (by decide),jkv,jn3,if_neg (by simp),jn4,if_neg (by decide),jeX];have hb2:b.length<=(k+1)*long+long:=by rw [show k+2=(k+1)+1 from rfl,Nat.add_mul (k+1) 1,Nat.one_mul] at hb;exact hb
  rw [jij long hl (k+1) false _ _ _ _ r (by omega) (by rw [List.length_drop];omega)];rw [List.append_assoc,List.take_append_drop]
  congr 2
  omega
theorem jn6 {long:Nat}(h0:0<long)(hl:long<65536)(b:List UInt8)(r:List (List UInt8)):jaZ (cutF long b++r)=(b,jbT long b.length,0):=by
 rw [jaZ,cutF,jij long hl _ _ _ _ _ _ _ (show 0<jbT long b.length from Nat.succ_pos _) (jhe h0)];simp
theorem jgy (long:Nat)(hl:long<65536):∀(k:Nat) (a:Bool) (s:W32) (b acc:List UInt8) (j m:Nat),m<k->joinL s a acc j ((jbd long k a s b).take m)=([],0,170)
 |_,_,_,_,_,_,0,_=>by rw [List.take_zero];rfl
 |0,_,_,_,_,_,m+1,h=>absurd h (by omega)
 |1,_,_,_,_,_,m+1,h=>absurd h (by omega)
 |k+2,a,s,b,acc,j,m+1,h=>by
  rw [jbd,List.take_succ_cons];rw [joinL,jn2 _ _ _ _ (by rw [List.length_take];omega),if_neg (by decide),jkv,jn3,if_neg (by simp),jn4,if_neg (by decide),jeX];exact jgy long hl (k+1) false _ _ _ _ m (by omega)
theorem jgz:∀(l:List (List UInt8)) (s:W32) (a:Bool) (acc:List UInt8) (k:Nat),(joinL s a acc k l).2.2=0->k<(joinL s a acc k l).2.1∧(joinL s a acc k l).2.1<=k+l.length
 | [],s,a,acc,k,h=>by simp [joinL] at h
 |p::r,s,a,acc,k,h=>by
  rw [joinL] at h ⊢
  split at h
  ·simp at h
  ·rename_i h1
   rw [if_neg h1]
   split at h
   ·simp at h
   ·rename_i h2
    rw [if_neg h2]
    split at h
    ·rename_i h3
     rw [if_pos h3];simp
    ·rename_i h3
     rw [if_neg h3];have:=jgz r _ _ _ _ h;rw [List.length_cons];omega
theorem jep {l:List (List UInt8)}(h:(jaZ l).2.2=0):0<(jaZ l).2.1∧(jaZ l).2.1<=l.length:=by
 have:=jgz l 0 true [] 0 h
 rwa [Nat.zero_add] at this
theorem jik:∀(l:List (List UInt8)) (s:W32) (a:Bool) (acc:List UInt8) (k:Nat),(joinL s a acc k l).1.length<=acc.length+l.flatten.length
 | [],s,a,acc,k=>by simp [joinL]
 |p::r,s,a,acc,k=>by
  rw [joinL];rw [List.flatten_cons,List.length_append]
  split
  ·simp
  ·split
   ·simp
   ·split
    ·simp;omega
    ·have:=jik r (tdF p) false (acc++p.drop 7) (k+1)
     rw [List.length_append,List.length_drop] at this;omega
theorem jeY (long:Nat)(b:List UInt8):(cutF long b).length=jbT long b.length:=jkw _ _ _ _ _
theorem jc6 (long n:Nat):0<jbT long n:=Nat.succ_pos _
theorem jlG {long:Nat}(hl:long<65536)(b:List UInt8){m:Nat}(h:m<jbT long b.length):jaZ ((cutF long b).take m)=([],0,170):=jgy long hl _ _ _ _ _ _ _ h
structure CutAt (long k:Nat)(l:List UInt8)(i:Nat)(s:W32)(ps:List (List UInt8)):Prop where
 len:ps.length=i
 le:i<=k
 all:ps++jbd long (k-i) (decide (i=0)) s (l.drop (i*long))=jbd long k true 0 l
 fit:(l.drop (i*long)).length<=(k-i)*long
theorem CutAt.start (long k:Nat)(l:List UInt8)(h:l.length<=k*long):CutAt long k l 0 0 []:=⟨rfl,Nat.zero_le _,by simp,by simpa using h⟩
theorem CutAt.next {long k:Nat}{l:List UInt8}{i:Nat}{s:W32}{ps:List (List UInt8)}(h:CutAt long k l i s ps)(hi:i<k):
  CutAt long k l (i+1) (smF (mkF (decide (i=0)) (decide (i+1=k))) ((l.drop (i*long)).take long) s) (ps ++ [pcF (mkF (decide (i=0)) (decide (i+1=k))) ((l.drop (i*long)).take long) s]):=by
 obtain⟨j,hj⟩:∃j,k-i=j+1:=⟨k-i-1,by omega⟩;have ha:=h.all;have hf:=h.fit;rw [hj] at ha hf;rw [jn5 _ _ _ _ _ hf] at ha;have e1:decide (j=0)=decide (i+1=k):=decide_eq_decide.2 (by omega);have e2:decide (i+1=0)=false:=by simp
 have e3:k-(i+1)=j:=by omega
 have e4:(l.drop (i*long)).drop long=l.drop ((i+1)*long):=by rw [List.drop_drop,Nat.add_mul,Nat.one_mul]
 refine⟨by rw [List.length_append,h.len];rfl,hi, ?_, ?_⟩
 ·rw [e3,e2,<-e4,List.append_assoc,List.singleton_append,<-e1]
  exact ha
 ·rw [e3,<-e4,List.length_drop]
  rw [Nat.add_mul,Nat.one_mul] at hf;omega
theorem CutAt.done {long k:Nat}{l:List UInt8}{s:W32}{ps:List (List UInt8)}(h:CutAt long k l k s ps):ps=jbd long k true 0 l:=by
 have:=h.all;rw [Nat.sub_self,jbd,List.append_nil] at this;exact this
end
section
open Go.RowKit Go.Proofs
set_option maxRecDepth 20000
set_option maxHeartbeats 1600000
theorem jpR:∀n:Nat,n<256->bits .andNot .u8 (n:Int) 2=(((UInt8.ofNat n) &&& 253).toNat:Int):=by decide +kernel
theorem jpS:∀n:Nat,n<256->bits .and .u8 (n:Int) 2=(((UInt8.ofNat n) &&& 2).toNat:Int):=by decide +kernel
theorem andn_b (u:UInt8):bits .andNot .u8 (u.toNat:Int) 2=((u &&& 253).toNat:Int):=by
 have:=jpR u.toNat u.toNat_lt
 rwa [UInt8.ofNat_toNat] at this
theorem jqo (u:UInt8):bits .and .u8 (u.toNat:Int) 2=((u &&& 2).toNat:Int):=by
 have:=jpS u.toNat u.toNat_lt
 rwa [UInt8.ofNat_toNat] at this
theorem tdF_z (l:List UInt8):IntKind.u32.wrap (((ja0 l 3 4).1:Nat):Int)=((tdF l).toNat:Int)∨¬7<=l.length:=by
 by_cases h:7<=l.length
 ·left
  have e:(ja0 l 3 4).1=jat ((l.drop 3).take 4):=by
   unfold ja0;rw [if_neg (by omega),if_neg (by omega)]
   rfl
  rw [e,IntKind.wrap_u32,tdF,BitVec.toNat_ofNat];omega
 ·exact .inr h
theorem jd4 (A:Option Addr)(n c:Nat)(l:List UInt8)(w:World)(h:Sl w 1 A n c (cells l))(h7:7<=n):
  Calls Tryz.prog 135 #[.slice A n c] w λ e w' =>e= .returned (.int .u32 ((tdF l).toNat:Int))∧w=w':=by
 have hl:=h.len;rw [jaa,Nat.mul_one] at hl;have hg:=jfM A n c l 3 4 w h;have hz:=(tdF_z l).resolve_right (by omega);obtain⟨x,hx⟩:∃x,x=ja0 l 3 4:=⟨_,rfl⟩;rw [<-hx] at hg hz;have HZ:=qH hz;clear hz hx hl h;go_enter Tryz.func135,Tryz.ntmps135;go_wp2_with fail;refine hg.mono ?_;clear hg;rintro e w' ⟨rfl,hw'⟩;obtain rfl:w=w':=hw';go_wp2_with fail;go_ret;exact⟨ret_z HZ.out,rfl⟩
theorem jlH (A:Option Addr)(n c:Nat)(b:Bool)(w:World)(h7:n<7):
  Calls Tryz.prog 157 #[.slice A n c, .bool b] w λ e w' =>e= .returned (.bool false)∧w=w':=by
 have q:(n:Int)<7:=by omega
 go_enter Tryz.func157,Tryz.ntmps157;go_wp2_with fail;go_ret;exact⟨rfl,rfl⟩
theorem fmB_eq (l:List UInt8)(a:Bool)(h7:7<=l.length)(u:UInt8)(hu:l[0]? =some u):fmB l a=(decide (((l.length-7:Nat):Int)=(((ja0 l 1 2).1:Nat):Int)) && decide (((u &&& 253).toNat:Int)=if a then 1 else 0)):=by
 have e:(ja0 l 1 2).1=jat ((l.drop 1).take 2):=by
  unfold ja0;rw [if_neg (by omega),if_neg (by omega)]
  rfl
 rw [fmB,decide_eq_true h7,Bool.true_and,e,List.getD_eq_getElem?_getD,hu,Option.getD_some]
 congr 1
 ·exact decide_eq_decide.2 (by omega)
 ·refine decide_eq_decide.2 ?_
  cases a
  ·rw [if_neg (by decide),if_neg (by decide)]
   rw [<-UInt8.toNat_inj]
   show _=0↔_
   omega
  ·rw [if_pos rfl,if_pos rfl]
   rw [<-UInt8.toNat_inj]
   show _=1↔_
   omega
theorem jlI (A:Option Addr)(n c:Nat)(l:List UInt8)(a:Bool)(w:World)(h:Sl w 1 A n c (cells l)):
  Calls Tryz.prog 157 #[.slice A n c, .bool a] w λ e w' =>e= .returned (.bool (fmB l a))∧w=w':=by
 have hl:=h.len;rw [jaa,Nat.mul_one] at hl
 by_cases h7:n<7
 ·refine(jlH A n c a w h7).mono ?_
  rintro e w' ⟨rfl,hw⟩;refine⟨?_,hw⟩;rw [fmB,decide_eq_false (by omega),Bool.false_and]
 ·have hq:¬(n:Int)<7:=by omega
  have hlim:=h.lim;unfold maxLen at hlim;have hg:=jfM A n c l 1 2 w h;obtain⟨u,hu⟩:∃u,l[0]? =some u:=⟨l[0],List.getElem?_eq_getElem (by omega)⟩;obtain⟨b,o,rfl,hc⟩:=h.at_ (k:=0) (by omega);have hcell:w.cell? ⟨b,o,none⟩=some (.int .u8 (u.toNat:Int)):=by
   have:=hc 0 (bv u) (by simp [cells,hu])
   rwa [Nat.add_zero] at this
  have he:=fmB_eq l a (by omega) u hu;rw [hl] at he;have hx2:(ja0 l 1 2).1<256 ^ 2:=jnS l 1 2;obtain⟨x,hx⟩:∃x,x=ja0 l 1 2:=⟨_,rfl⟩;rw [<-hx] at hg he hx2;have HE:=qH he;have e1:IntKind.u64.wrap ((n:Int)-7)=((n-7:Nat):Int):=by rw [IntKind.wrap_u64];omega
  have e2:wrap64 ((n:Int)-7)=(n:Int)-7:=by unfold wrap64;omega
  have e3:=andn_b u;obtain⟨v,hv⟩:∃v,v=u &&& 253:=⟨_,rfl⟩;rw [<-hv] at e3 HE;obtain⟨m,hm⟩:∃m,m=n-7:=⟨_,rfl⟩;rw [<-hm] at e1 HE;have HM:=qH hm;clear he hx hu hc h hv hl hx2 hm
  cases a
  all_goals
   by_cases hd:m=x.1
   all_goals
    have q1:((m:Int)==((x.1:Nat):Int))=decide (m=x.1):=by
     by_cases hh:m=x.1<;>simp [hh];omega
    have HD:=qH hd;have Q1:=qH q1;clear hd q1;go_enter Tryz.func157,Tryz.ntmps157;go_wp2_with fail;refine hg.mono ?_;clear hg;rintro e w' ⟨rfl,hw'⟩;obtain rfl:w=w':=hw';have q1:=Q1.out;have hd:=HD.out;go_wp2_with fail;go_ret;refine⟨?_,rfl⟩;rw [HE.out]
    simp_all
    all_goals (first|done|rfl|(rw [Bool.eq_iff_iff];simp only [beq_iff_eq,decide_eq_true_iff];omega))
theorem jil (A:Option Addr)(l:List UInt8)(s:W32)(w:World)(h:Sl w 1 A 7 7 (cells l))(hN:Nt w):
  Calls Tryz.prog 158 #[.int .u32 (s.toNat:Int), .slice A 7 7] w λ e w' =>e= .returned (.int .u32 ((smP s l).toNat:Int))∧Below w.heap.size w w':=by
 have hl:=h.len;rw [jaa,Nat.mul_one] at hl;have s1:=h.sub1 0 3 7 (by omega) (by omega) (by omega) (by unfold maxLen;omega);have s2:Sl w 1 A 0 0 (cells (l.drop 7)):=by
  rw [List.drop_eq_nil_of_le (by omega)];exact Sl.empty _ _ _ _ (by unfold maxLen;omega)
 obtain⟨b,o,rfl,hc⟩:=h.at_ (k:=0) (by omega);rw [show (3:Nat)-0=3 from rfl,List.drop_zero] at s1;have S1:=qH s1.drew;have S2:=qH s2.drew;have NW:=qH (show Nt w.drew from hN.keep (Below.drew (Below.refl _ _)));have SM:=qH (show smP s l=more (more s (l.take 3)) (l.drop 7) from rfl);clear s1 s2 hN hl hc h;go_enter Tryz.func158,Tryz.ntmps158;go_wp2_with fail;refine wp_region_held_drew (S:=λ w' =>Fr (λ _=>False) w.drew w') (by kernel_rfl) (Fr.refl _ _) (λ hHeld=> ?_);clear hHeld;refine tA 0 (some 5) rfl (Fr.refl _ _) ?_;refine tA 1 (some 6) rfl (Fr.refl _ _) ?_;refine tA 2 (some 7) rfl (Fr.refl _ _) ?_;refine tA 4 (some 9) rfl (Fr.refl _ _) ?_;refine tA 5 (some 10) rfl (Fr.refl _ _) ?_;refine rW 3 (some 8) rfl λ K hK=> ?_
 go_simp;refine(jdX _ _ _ (l.take 3) s w.drew S1.out NW.out).mono ?_;rintro e w1 ⟨rfl,hb1⟩;have hfr:Fr (λ _=>False) w.drew w1:=Fr.of_below hb1;have B1:=qH (show Below w.heap.size w w1 from (Below.drew (Below.refl _ _)).trans hb1);have N1:=qH (NW.out.keep hb1);have S2:=qH (S2.out.below hb1 (Nat.le_refl _));clear hb1;go_wp2_with fail;refine hK.out _ _ hfr (λ hHeld=> ?_);clear hK K hHeld
 try simp only [Act.put,sA,sB,sC]
 refine jac (S':=λ w' =>Fr (λ _=>False) w1 w') (λ w' h=>hfr.trans h) ?_;clear hfr;refine rW 6 (some 11) rfl λ K hK=> ?_
 go_simp;refine(jdX _ _ _ (l.drop 7) (more s (l.take 3)) w1 S2.out N1.out).mono ?_;rintro e w2 ⟨rfl,hb2⟩;have hfr:Fr (λ _=>False) w1 w2:=Fr.of_below hb2;have B2:=qH (B1.out.trans (hb2.mono B1.out.size));clear hb2;go_wp2_with fail;refine hK.out _ _ hfr (λ hHeld=> ?_);clear hK K hHeld
 try simp only [Act.put,sA,sB,sC]
 refine jac (S':=λ w' =>Fr (λ _=>False) w2 w') (λ w' h=>hfr.trans h) ?_;clear hfr;refine tA 7 (some 4) rfl (Fr.refl _ _) ?_;refine tD ?_;go_wp2_with fail;go_ret;rw [SM.out];exact⟨rfl,B2.out⟩
theorem jjE (A:Option Addr)(n c:Nat)(l:List UInt8)(s:W32)(w:World)(h:Sl w 1 A n c (cells l))(h7:7<=n)(hc7:¬c=7)(hN:Nt w):
  Calls Tryz.prog 158 #[.int .u32 (s.toNat:Int), .slice A n c] w λ e w' =>e= .returned (.int .u32 ((smP s l).toNat:Int))∧Below w.heap.size w w':=by
 have hl:=h.len;rw [jaa,Nat.mul_one] at hl;obtain⟨b,o,rfl,hc⟩:=h.at_ (k:=0) (by omega);have hcap:=h.cap;have htop:=h.top;unfold maxLen at htop;have s1:=h.sub1 0 3 c (by omega) (by omega) (by omega) (by unfold maxLen;omega);have s2:=h.sub1 7 n (c-7) (by omega) (by omega) (by omega) (by unfold maxLen;omega);rw [List.take_of_length_le (by rw [List.length_drop];omega)] at s2;rw [show (3:Nat)-0=3 from rfl,List.drop_zero] at s1;have S1:=qH s1.drew;have S2:=qH s2.drew;have NW:=qH (show Nt w.drew from hN.keep (Below.drew (Below.refl _ _)));have SM:=qH (show smP s l=more (more s (l.take 3)) (l.drop 7) from rfl);have q1:(3:Int)<=(c:Int):=by omega
 have q2:(7:Int)<=(n:Int):=by omega
 have q3:¬(c:Int)=7:=by omega
 clear s1 s2 hN hl hc h;go_enter Tryz.func158,Tryz.ntmps158;go_wp2_with fail;refine wp_region_held_drew (S:=λ w' =>Fr (λ _=>False) w.drew w') (by kernel_rfl) (Fr.refl _ _) (λ hHeld=> ?_);clear hHeld;refine tA 0 (some 5) rfl (Fr.refl _ _) ?_;refine tA 1 (some 6) rfl (Fr.refl _ _) ?_;refine tA 2 (some 7) rfl (Fr.refl _ _) ?_;refine tA 4 (some 9) rfl (Fr.refl _ _) ?_;refine tA 5 (some 10) rfl (Fr.refl _ _) ?_;refine rW 3 (some 8) rfl λ K hK=> ?_
 go_simp;refine(jdX _ _ _ (l.take 3) s w.drew S1.out NW.out).mono ?_;rintro e w1 ⟨rfl,hb1⟩;have hfr:Fr (λ _=>False) w.drew w1:=Fr.of_below hb1;have B1:=qH (show Below w.heap.size w w1 from (Below.drew (Below.refl _ _)).trans hb1);have N1:=qH (NW.out.keep hb1);have S2:=qH (S2.out.below hb1 (Nat.le_refl _));clear hb1;go_wp2_with fail;refine hK.out _ _ hfr (λ hHeld=> ?_);clear hK K hHeld
 try simp only [Act.put,sA,sB,sC]
 refine jac (S':=λ w' =>Fr (λ _=>False) w1 w') (λ w' h=>hfr.trans h) ?_;clear hfr;refine rW 6 (some 11) rfl λ K hK=> ?_
 go_simp;refine(jdX _ _ _ (l.drop 7) (more s (l.take 3)) w1 S2.out N1.out).mono ?_;rintro e w2 ⟨rfl,hb2⟩;have hfr:Fr (λ _=>False) w1 w2:=Fr.of_below hb2;have B2:=qH (B1.out.trans (hb2.mono B1.out.size));clear hb2;go_wp2_with fail;refine hK.out _ _ hfr (λ hHeld=> ?_);clear hK K hHeld
 try simp only [Act.put,sA,sB,sC]
 refine jac (S':=λ w' =>Fr (λ _=>False) w2 w') (λ w' h=>hfr.trans h) ?_;clear hfr;refine tA 7 (some 4) rfl (Fr.refl _ _) ?_;refine tD ?_;go_wp2_with fail;go_ret;rw [SM.out];exact⟨rfl,B2.out⟩
theorem jeL (A:Option Addr)(n c:Nat)(l:List UInt8)(s:W32)(w:World)(h:Sl w 1 A n c (cells l))(h7:7<=n)(hN:Nt w):
  Calls Tryz.prog 158 #[.int .u32 (s.toNat:Int), .slice A n c] w λ e w' =>e= .returned (.int .u32 ((smP s l).toNat:Int))∧Below w.heap.size w w':=by
 by_cases hc7:c=7
 ·subst hc7
  obtain rfl:7=n:=by have:=h.cap;omega
  exact jil A l s w h hN
 ·exact jjE A n c l s w h h7 hc7 hN
end
end Go.Proofs.YtmhejbihdghhaaaGreatDoor

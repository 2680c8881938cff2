/-
  A shard as plain data, as its 49 cells, as the 64 bytes of a sector; what is read of 64 bytes; that both go back and forth
-/
import Derived.Test.YtmhejbihdghhaaaGreatDoorQcab
import Derived.Deep.MidRow
import Derived.Test.YtmhejbihdghhaaaGreatDoorEqt
import Derived.Stop.BytesEq
import Derived.Great.BuildSlice
import Derived.Deep.RegionHeld
import Derived.Deep.WholeRow
namespace Go.Proofs.YtmhejbihdghhaaaGreatDoor
set_option linter.unusedVariables false
open Go.RowKit
open Go.RowKit Go.Proofs
open Go.RowKit Go.Proofs
open Go.RowKit Go.Proofs
open Go.RowKit Go.Proofs
open Go.RowKit Go.Proofs
open Go.RowKit Go.Proofs
open Go.RowKit Go.Proofs
open Go.RowKit Go.Proofs
open Go.RowKit Go.Proofs
set_option maxRecDepth 20000
set_option maxHeartbeats 1600000
section
theorem jqj:∀(k x y:Nat),le k (x+256 ^ k*y)=le k x
 |0,_,_=>rfl
 |k+1,x,y=>by
  have h1:x+256 ^ (k+1)*y=x+256 ^ k*(256*y):=by rw [Nat.pow_succ,Nat.mul_assoc]
  rw [le,le,h1,jqj k x]
  congr 2
  rw [Nat.add_mul_div_left _ _ (Nat.pow_pos (by decide))]
  apply UInt8.toNat_inj.1
  rw [UInt8.toNat_ofNat',UInt8.toNat_ofNat'];omega
theorem jeP:∀(p:List UInt8),le p.length (jat p)=p:=by
 intro p;obtain⟨n,hn⟩:∃n,n=p.length:=⟨_,rfl⟩
 induction n generalizing p with
 |zero=>rw [List.eq_nil_of_length_eq_zero hn.symm];rfl
 |succ n ih=>
  obtain⟨q,u,rfl⟩:∃q u,p=q ++ [u]:=⟨p.dropLast,p.getLast (by rintro rfl;simp at hn),(List.dropLast_concat_getLast _).symm⟩;have hq:q.length=n:=by simp at hn;omega
  have hlt:=jb4 q;rw [List.length_append,List.length_singleton,le,jb3,jqj,ih q hq.symm,Nat.add_mul_div_left _ _ (Nat.pow_pos (by decide)),Nat.div_eq_of_lt hlt];simp [jat]
theorem jqk (u:UInt8):le 1 u.toNat= [u]:=by simp [le]
theorem jnk (u:UInt8):jat [u]=u.toNat:=by simp [jat]
def jaB (b:List UInt8):List UInt8:=(List.range 44).map λ j=>b.getD j 0
theorem jaO (b:List UInt8):(jaB b).length=44:=by simp [jaB]
theorem jeQ {b:List UInt8}(h:b.length=44):jaB b=b:=by
 apply List.ext_getElem?
 intro i
 by_cases hi:i<44
 ·have:i<b.length:=by omega
  simp [jaB,hi,this]
 ·rw [List.getElem?_eq_none (by rw [jaO];omega),List.getElem?_eq_none (by omega)]
structure Sh where
 kind:UInt8
 idx:UInt8
 place:Nat
 gen:Nat
 size:Nat
 body:List UInt8
namespace Sh
structure Ok (s:Sh):Prop where
 place:s.place<65536
 gen:s.gen<18446744073709551616
 size:s.size<65536
 body:s.body.length=44
def zero:Sh:=⟨0,0,0,0,0,List.replicate 44 0⟩
theorem zero_ok:zero.Ok:=⟨by decide,by decide,by decide,rfl⟩
def cs (s:Sh):List Value:= .int .u8 (s.kind.toNat:Int):: .int .u8 (s.idx.toNat:Int):: .int .u16 (s.place:Int):: .int .u64 (s.gen:Int):: .int .u16 (s.size:Int)::cells (jaB s.body)
theorem cs_len (s:Sh):s.cs.length=49:=by simp [cs,jaa,jaO]
theorem cs_one (s:Sh):∀v∈s.cs,v.oneCell' =true:=by
 intro v hv;simp only [cs,List.mem_cons] at hv
 rcases hv with rfl|rfl|rfl|rfl|rfl|hv
 ·rfl
 ·rfl
 ·rfl
 ·rfl
 ·rfl
 ·exact cells_one _ v hv
def v (s:Sh):Value:= .agg s.cs.toArray
def kn (s:Sh):Bool:=decide (1<=s.kind.toNat) && decide (s.kind.toNat<=4)
def head (s:Sh):List UInt8:= [s.kind,s.idx] ++ le 2 s.place++le 8 s.gen++le 2 s.size ++ [0,0] ++ s.body
end Sh
def sumOf (l:List UInt8):Nat:=(more 0 l).toNat
theorem jgW (l:List UInt8):sumOf l<4294967296:=(more 0 l).isLt
def closed (l:List UInt8):List UInt8:=l++le 4 (sumOf l)
def Sh.sector (s:Sh):List UInt8:=closed s.head
theorem Sh.Ok.head_len {s:Sh}(h:s.Ok):s.head.length=60:=by simp [Sh.head,jak,h.body]
theorem jli (l:List UInt8):(closed l).length=l.length+4:=by rw [closed,List.length_append,jak]
theorem Sh.Ok.sector_len {s:Sh}(h:s.Ok):s.sector.length=64:=by rw [Sh.sector,jli,h.head_len]
def jaC (l:List UInt8):Sh:=⟨l.getD 0 0,l.getD 1 0,jat ((l.drop 2).take 2),jat ((l.drop 4).take 8),jat ((l.drop 12).take 2),(l.drop 16).take 44⟩
def getE (l:List UInt8):Nat:=if l.length≠64 then 2 else if jat ((l.drop 60).take 4)≠sumOf (l.take 60) then 4 else if (jaC l).kn=false∨jat ((l.drop 14).take 2)≠0 then 3 else 0
def getS (l:List UInt8):Sh:=if getE l=0 then jaC l else Sh.zero
theorem jlj {l:List UInt8}(h:l.length=64):(jaC l).Ok:=by
 refine⟨?_, ?_, ?_,by simp [jaC,h]⟩
 ·have:=jb4 ((l.drop 2).take 2)
  show jat ((l.drop 2).take 2)<_
  simpa [List.length_take,h] using this
 ·have:=jb4 ((l.drop 4).take 8)
  show jat ((l.drop 4).take 8)<_
  simpa [List.length_take,h] using this
 ·have:=jb4 ((l.drop 12).take 2)
  show jat ((l.drop 12).take 2)<_
  simpa [List.length_take,h] using this
theorem jq7 (l:List UInt8):(getS l).Ok:=by
 unfold getS
 split
 ·rename_i h
  refine jlj ?_;unfold getE at h
  split at h
  ·omega
  ·rename_i h1
   simpa using h1
 ·exact Sh.zero_ok
theorem jeR {l:List UInt8}(h:l.length≠64):getE l=2:=by rw [getE,if_pos h]
theorem jeS {l:List UInt8}(h:getE l≠0):getS l=Sh.zero:=by rw [getS,if_neg h]
theorem jcZ {l:List UInt8}(h:getE l=0):getS l=jaC l:=by rw [getS,if_pos h]
theorem jkh {l:List UInt8}(h:l.length=64)(hs:jat ((l.drop 60).take 4)≠sumOf (l.take 60)):getE l=4:=by rw [getE,if_neg (by simpa using h),if_pos hs]
theorem jfA {l:List UInt8}(h:l.length=64)(hs:jat ((l.drop 60).take 4)=sumOf (l.take 60))(hk:(jaC l).kn=false∨jat ((l.drop 14).take 2)≠0):getE l=3:=by rw [getE,if_neg (by simpa using h),if_neg (by simpa using hs),if_pos hk]
theorem jhU {l:List UInt8}(h:l.length=64)(hs:jat ((l.drop 60).take 4)=sumOf (l.take 60))(hk:(jaC l).kn=true)(h0:jat ((l.drop 14).take 2)=0):getE l=0:=by
 rw [getE,if_neg (by simpa using h),if_neg (by simpa using hs),if_neg (by rw [hk,h0];simp)]
/-! There and back. -/
theorem ja4 {α:Type}{a b:List α}{n:Nat}(h:a.length=n):(a++b).take n=a:=by rw [<-h,List.take_left'];rfl
theorem jbr {α:Type}{a b:List α}{n:Nat}(h:a.length=n):(a++b).drop n=b:=by rw [<-h,List.drop_left'];rfl
theorem jlk (l:List UInt8)(h:l.length=60):jat (((closed l).drop 60).take 4)=sumOf ((closed l).take 60):=by
 rw [closed,jbr h,ja4 h,List.take_of_length_le (by rw [jak];exact Nat.le_refl _),jb5,Nat.mod_eq_of_lt (jgW l)]
theorem jq8 {s:Sh}(h:s.Ok)(t:List UInt8):jaC (s.head++t)=s∧jat (((s.head++t).drop 14).take 2)=0:=by
 obtain⟨k,i,p,g,z,b⟩:=s;obtain⟨h1,h2,h3,h4⟩:=h;have e:Sh.head ⟨k,i,p,g,z,b⟩++t= [k,i] ++(le 2 p ++(le 8 g ++(le 2 z ++([0,0] ++(b++t))))):=by simp [Sh.head,List.append_assoc]
 have d2:([k,i] ++(le 2 p ++(le 8 g ++(le 2 z ++([0,0] ++(b++t)))))).drop 2=le 2 p ++(le 8 g ++(le 2 z ++([0,0] ++(b++t)))):=rfl;have d4:([k,i] ++(le 2 p ++(le 8 g ++(le 2 z ++([0,0] ++(b++t)))))).drop 4=le 8 g ++(le 2 z ++([0,0] ++(b++t))):=by
  rw [show 4=2+2 from rfl,<-List.drop_drop,d2,jbr (jak 2 p)]
 have d12:([k,i] ++(le 2 p ++(le 8 g ++(le 2 z ++([0,0] ++(b++t)))))).drop 12=le 2 z ++([0,0] ++(b++t)):=by
  rw [show 12=4+8 from rfl,<-List.drop_drop,d4,jbr (jak 8 g)]
 have d14:([k,i] ++(le 2 p ++(le 8 g ++(le 2 z ++([0,0] ++(b++t)))))).drop 14= [0,0] ++(b++t):=by
  rw [show 14=12+2 from rfl,<-List.drop_drop,d12,jbr (jak 2 z)]
 have d16:([k,i] ++(le 2 p ++(le 8 g ++(le 2 z ++([0,0] ++(b++t)))))).drop 16=b++t:=by
  rw [show 16=14+2 from rfl,<-List.drop_drop,d14];rfl
 rw [e];refine⟨?_,by rw [d14];rfl⟩;unfold jaC;rw [d2,d4,d12,d16,ja4 (jak 2 p),ja4 (jak 8 g),ja4 (jak 2 z),ja4 h4,jb5,jb5,jb5,Nat.mod_eq_of_lt (by simpa using h1),Nat.mod_eq_of_lt (by simpa using h2),Nat.mod_eq_of_lt (by simpa using h3)]
 rfl
theorem Sh.Ok.get_sector {s:Sh}(h:s.Ok)(hk:s.kn=true):getE s.sector=0∧getS s.sector=s:=by
 have hh:=jq8 h (le 4 (sumOf s.head));have hl:=h.head_len;have he:getE s.sector=0:=by
  refine jhU h.sector_len (jlk _ hl) ?_ hh.2
  show (jaC (s.head++le 4 (sumOf s.head))).kn=true
  rw [hh.1];exact hk
 refine⟨he, ?_⟩;rw [jcZ he];exact hh.1
theorem jpk {l:List UInt8}{a:Nat}(h:a+2<=l.length):(l.drop a).take 2= [l.getD a 0,l.getD (a+1) 0]:=by
 have h1:a<l.length:=by omega
 have h2:a+1<l.length:=by omega
 rw [List.drop_eq_getElem_cons h1,List.take_succ_cons,List.drop_eq_getElem_cons h2,List.take_succ_cons];simp [List.getD_eq_getElem?_getD,h1,h2]
theorem jf4 {l:List UInt8}(h:getE l=0):(jaC l).sector=l∧(jaC l).kn=true:=by
 have hl:l.length=64:=by
  rcases Nat.decEq l.length 64 with h' |h'
  ·rw [jeR h'] at h;cases h
  ·exact h'
 have hs:jat ((l.drop 60).take 4)=sumOf (l.take 60):=by
  rcases Nat.decEq (jat ((l.drop 60).take 4)) (sumOf (l.take 60)) with h' |h'
  ·rw [jkh hl h'] at h;cases h
  ·exact h'
 have hf:¬((jaC l).kn=false∨jat ((l.drop 14).take 2)≠0):=by
  intro h';rw [jfA hl hs h'] at h;cases h
 have hk:(jaC l).kn=true:=by
  cases hb:(jaC l).kn
  ·exact absurd (.inl hb) hf
  ·rfl
 have h0:jat ((l.drop 14).take 2)=0:=Decidable.byContradiction λ h' =>hf (.inr h')
 have h14:(l.drop 14).take 2= [0,0]:=by
  have:=jeP ((l.drop 14).take 2);rw [h0,List.length_take,List.length_drop,hl] at this;exact this.symm
 have hlen2:∀a,a+2<=64->((l.drop a).take 2).length=2:=λ a ha=>by rw [List.length_take,List.length_drop,hl];omega
 have e2:∀a,a+2<=64->le 2 (jat ((l.drop a).take 2))=(l.drop a).take 2:=λ a ha=>by
  have:=jeP ((l.drop a).take 2)
  rwa [hlen2 a ha] at this
 have e8:le 8 (jat ((l.drop 4).take 8))=(l.drop 4).take 8:=by
  have:=jeP ((l.drop 4).take 8)
  rwa [show ((l.drop 4).take 8).length=8 by rw [List.length_take,List.length_drop,hl];rfl] at this
 have e4:le 4 (jat ((l.drop 60).take 4))=(l.drop 60).take 4:=by
  have:=jeP ((l.drop 60).take 4)
  rwa [show ((l.drop 60).take 4).length=4 by rw [List.length_take,List.length_drop,hl];rfl] at this
 have hh:(jaC l).head=l.take 60:=by
  unfold Sh.head jaC;rw [e2 2 (by omega),e2 12 (by omega),e8,<-h14];have t2: [l.getD 0 0,l.getD 1 0]=l.take 2:=by
   have:=jpk (l:=l) (a:=0) (by omega);rw [List.drop_zero] at this;exact this.symm
  rw [t2];have j:∀a b,a+b<=64->l.take a ++(l.drop a).take b=l.take (a+b):=λ a b _=>(List.take_add ..).symm
  rw [j 2 2 (by omega),j 4 8 (by omega),j 12 2 (by omega),j 14 2 (by omega),j 16 44 (by omega)]
 refine⟨?_,hk⟩;rw [Sh.sector,closed,hh,<-hs,e4];have:(l.drop 60).take 4=l.drop 60:=List.take_of_length_le (by rw [List.length_drop,hl];exact Nat.le_refl _);rw [this,List.take_append_drop]
end
section
def ShB (w:World)(b:Nat)(s:Sh):Prop:=w.heap[b]? =some (.cells s.cs.toArray 244 (0,0))
section
variable {w w':World}{b:Nat}{s:Sh}
theorem ShB.k (h:ShB w b s):w.cell? ⟨b,0,none⟩=some (.int .u8 (s.kind.toNat:Int)):=by rw [cell_of_row _ _ _ _ _ _ h];rfl
theorem ShB.i (h:ShB w b s):w.cell? ⟨b,1,none⟩=some (.int .u8 (s.idx.toNat:Int)):=by rw [cell_of_row _ _ _ _ _ _ h];rfl
theorem ShB.p (h:ShB w b s):w.cell? ⟨b,2,none⟩=some (.int .u16 (s.place:Int)):=by rw [cell_of_row _ _ _ _ _ _ h];rfl
theorem ShB.g (h:ShB w b s):w.cell? ⟨b,3,none⟩=some (.int .u64 (s.gen:Int)):=by rw [cell_of_row _ _ _ _ _ _ h];rfl
theorem ShB.z (h:ShB w b s):w.cell? ⟨b,4,none⟩=some (.int .u16 (s.size:Int)):=by rw [cell_of_row _ _ _ _ _ _ h];rfl
theorem ShB.byte (h:ShB w b s){j:Nat}(hj:j<44):w.cell? ⟨b,5+j,none⟩=some (bv (s.body.getD j 0)):=by
 rw [cell_of_row _ _ _ _ _ _ h,List.getElem?_toArray,Sh.cs,Nat.add_comm 5 j];simp only [List.getElem?_cons_succ];rw [jaE _ _ (by rw [jaO];exact hj)];simp [jaB]
theorem ShB.text (h:ShB w b s):w.rangeAt b 5 (cells (jaB s.body)):=λ j v hv=>by
 rw [cell_of_row _ _ _ _ _ _ h,List.getElem?_toArray,Sh.cs,Nat.add_comm 5 j]
 simpa only [List.getElem?_cons_succ] using hv
theorem ShB.free (h:ShB w b s)(j:Nat):w.frozen? ⟨b,j,none⟩=false:=frozen_of_row _ _ _ _ _ h
theorem ShB.later (h:ShB w b s)(hb:Below w.heap.size w w'):ShB w' b s:=(hb.block _ (block_lt h)).trans h
theorem ShB.fr {S:Nat->Prop}(h:ShB w b s)(hf:Fr S w w')(hb:¬S b):ShB w' b s:=hf.row_some h hb
theorem ShB.new (w:World)(s:Sh):ShB (w.alloc (.cells s.cs.toArray 244)) w.heap.size s:=heap_alloc_new w _
end
theorem jll (s:Sh):(Tryz.prog.info? 244).map (·.size)=some s.cs.length:=by
 rw [Sh.cs_len];kernel_rfl
theorem jba (s:Sh):(Tryz.prog.info? 244).map (·.size)=some s.cs.toArray.size:=by
 rw [List.size_toArray];exact jll s
theorem jc0 (l:List UInt8):(Tryz.prog.info? 242).map (·.size)=some (cells (jaB l)).length:=by
 rw [jaa,jaO];kernel_rfl
theorem jlm:Tryz.prog.built 244 []=some (Sh.cs Sh.zero).toArray:=by kernel_rfl
theorem jgs (w:World):(Instr.build 244 #[]).run Tryz.prog w= .ok (.agg (Sh.cs Sh.zero).toArray) w:=run_build w _ _ _ jlm
theorem jcn (w:World):(zeroValue 244).run Tryz.prog w= .ok (.agg (Sh.cs Sh.zero).toArray) w:=by kernel_rfl
theorem jpl (w:World):(zeroValue 242).run Tryz.prog w= .ok (.agg (cells (jaB [])).toArray) w:=by kernel_rfl
end
section
def genE (a:Nat)(n:Int):Nat:=if a<1099511627776∧0<=n∧n<1048576 then 0 else 2
def genN (a:Nat)(n:Int):Nat:=if a<1099511627776∧0<=n∧n<1048576 then a*1048576+n.toNat else 0
theorem jc1 (a:Nat)(n:Int):genN a n<18446744073709551616:=by
 unfold genN
 split
 ·omega
 ·omega
def isB (s:Sh)(k:UInt8)(p:Int)(g:Nat)(i:Int):Bool:=decide (s.kind=k∧(s.place:Int)=p∧s.gen=g∧(s.idx.toNat:Int)=i)
theorem jgX (a b:Int):(a==b)=decide (a=b):=by
 by_cases h:a=b
 ·rw [decide_eq_true h,beq_iff_eq];exact h
 ·rw [decide_eq_false h,beq_eq_false_iff_ne];exact h
theorem jhV (k:UInt8)(w:World):Calls Tryz.prog 205 #[.int .u8 (k.toNat:Int)] w λ e w' =>e= .returned (.bool (decide (1<=k.toNat) && decide (k.toNat<=4)))∧w=w':=by
 have hk:=k.toNat_lt
 by_cases h1:1<=k.toNat
 ·have h1i:(1:Int)<=(k.toNat:Int):=by omega
  by_cases h2:k.toNat<=4
  ·have h2i:(k.toNat:Int)<=4:=by omega
   rw [decide_eq_true h1,decide_eq_true h2];clear h1 h2;go_enter Tryz.func205,Tryz.ntmps205;go_wp2_with fail;go_ret;exact⟨rfl,rfl⟩
  ·have h2i:¬(k.toNat:Int)<=4:=by omega
   rw [decide_eq_true h1,decide_eq_false h2];clear h1 h2;go_enter Tryz.func205,Tryz.ntmps205;go_wp2_with fail;go_ret;exact⟨rfl,rfl⟩
 ·have h1i:¬(1:Int)<=(k.toNat:Int):=by omega
  rw [decide_eq_false h1,Bool.false_and];clear h1;go_enter Tryz.func205,Tryz.ntmps205;go_wp2_with fail;go_ret;exact⟨rfl,rfl⟩
theorem jq9 (a:Nat)(n:Int)(ha:a<18446744073709551616)(h1: -9223372036854775808<=n)(h2:n<9223372036854775808)(w:World):
  Calls Tryz.prog 96 #[.int .u64 (a:Int), .int .i64 n] w λ e w' =>e= .returned (.tuple #[.int .u64 (genN a n:Int), .int .i64 (genE a n:Int)])∧w=w':=by
 by_cases ga:a<1099511627776
 ·have d1:¬(a:Int)≥1099511627776:=by omega
  by_cases g1:0<=n
  ·have d2:¬n<0:=by omega
   by_cases g2:n<1048576
   ·have d3:¬n≥1048576:=by omega
    have hE:genE a n=0:=by rw [genE,if_pos ⟨ga,g1,g2⟩]
    have hN:genN a n=a*1048576+n.toNat:=by rw [genN,if_pos ⟨ga,g1,g2⟩]
    rw [hE,hN];obtain⟨m,rfl⟩:∃m:Nat,n=(m:Int):=⟨n.toNat,by omega⟩;clear hE hN ga g1 g2 ha;go_enter Tryz.func96,Tryz.ntmps96;go_wp2_with fail;go_ret2;exact⟨jqt (by omega) rfl,rfl⟩
   ·have d3:n≥1048576:=by omega
    have hE:genE a n=2:=by rw [genE,if_neg (by omega)]
    have hN:genN a n=0:=by rw [genN,if_neg (by omega)]
    rw [hE,hN];clear hE hN ga g1 g2 ha;go_enter Tryz.func96,Tryz.ntmps96;go_wp2_with fail;go_ret2;exact⟨rfl,rfl⟩
  ·have d2:n<0:=by omega
   have hE:genE a n=2:=by rw [genE,if_neg (by omega)]
   have hN:genN a n=0:=by rw [genN,if_neg (by omega)]
   rw [hE,hN];clear hE hN ga g1 ha;go_enter Tryz.func96,Tryz.ntmps96;go_wp2_with fail;go_ret2;exact⟨rfl,rfl⟩
 ·have d1:(a:Int)≥1099511627776:=by omega
  have hE:genE a n=2:=by rw [genE,if_neg (by omega)]
  have hN:genN a n=0:=by rw [genN,if_neg (by omega)]
  rw [hE,hN];clear hE hN ga ha;go_enter Tryz.func96,Tryz.ntmps96;go_wp2_with fail;go_ret2;exact⟨rfl,rfl⟩
theorem bs_u8 (a b:UInt8):((a.toNat:Int)==(b.toNat:Int))=decide (a=b):=by
 rw [jgX]
 congr 1
 rw [eq_iff_iff];exact⟨λ h=>UInt8.toNat_inj.1 (by omega),λ h=>by rw [h]⟩
theorem bs_nat (a b:Nat):((a:Int)==(b:Int))=decide (a=b):=by
 rw [jgX]
 congr 1
 rw [eq_iff_iff];omega
end
section
theorem isB_eq (s:Sh)(k:UInt8)(p:Int)(g:Nat)(i:Int):isB s k p g i=(((s.kind.toNat:Int)==(k.toNat:Int)) && (((s.place:Int)==p) && (((s.gen:Int)==(g:Int)) && ((s.idx.toNat:Int)==i)))):=by
 rw [bs_u8,jgX,bs_nat,jgX,isB]
 by_cases h1:s.kind=k<;>by_cases h2:(s.place:Int)=p<;>by_cases h3:s.gen=g<;>by_cases h4:(s.idx.toNat:Int)=i<;>simp [h1,h2,h3,h4]
theorem jnl (s:Sh)(hs:s.Ok)(k:UInt8)(p:Int)(g:Nat)(i:Int)(w:World):
  Calls Tryz.prog 212 #[.agg s.cs.toArray, .agg #[.int .u8 (k.toNat:Int), .int .i64 p, .int .u64 (g:Int)], .int .i64 i] w λ e w' =>e= .returned (.bool (isB s k p g i))∧Below w.heap.size w w':=by
 have hk:=s.kind.toNat_lt;have hp:=hs.place;have hi:=s.idx.toNat_lt;have hb:Below w.heap.size w ((w.alloc (.cells s.cs.toArray 244)).alloc (.cells #[.int .u8 (k.toNat:Int), .int .i64 p, .int .u64 (g:Int)] 109)):=((Below.refl _ _).alloc (Nat.le_refl _) _).alloc (by simp) _;have hS:ShB ((w.alloc (.cells s.cs.toArray 244)).alloc (.cells #[.int .u8 (k.toNat:Int), .int .i64 p, .int .u64 (g:Int)] 109)) w.heap.size s:=(ShB.new w s).later ((Below.refl _ _).alloc (Nat.le_refl _) _);have ck:=hS.k;have ci:=hS.i;have cp:=hS.p;have cg:=hS.g;have e:=isB_eq s k p g i;have Hb:=qH hb;clear hS hs hb
 cases h1:(s.kind.toNat:Int)==(k.toNat:Int)
 ·rw [h1,Bool.false_and] at e
  rw [e];clear e;go_enter Tryz.func212,Tryz.ntmps212;go_wp2_with fail;go_ret;exact⟨rfl,Hb.out⟩
 rw [h1,Bool.true_and] at e
 cases h2:(s.place:Int)==p
 ·rw [h2,Bool.false_and] at e
  rw [e];clear e;go_enter Tryz.func212,Tryz.ntmps212;go_wp2_with fail;go_ret;exact⟨rfl,Hb.out⟩
 rw [h2,Bool.true_and] at e
 cases h3:(s.gen:Int)==(g:Int)
 ·rw [h3,Bool.false_and] at e
  rw [e];clear e;go_enter Tryz.func212,Tryz.ntmps212;go_wp2_with fail;go_ret;exact⟨rfl,Hb.out⟩
 rw [h3,Bool.true_and] at e;rw [e];clear e;go_enter Tryz.func212,Tryz.ntmps212;go_wp2_with fail;go_ret;exact⟨rfl,Hb.out⟩
end
section
theorem jpm (A:Option Addr)(n c:Nat)(l:List UInt8)(m:Nat)(x:Nat)(w:World)(h:Sl w 1 A n c (cells l))(h47:n<=140737488355320)(hm1:1<=m)(hm8:m<=8)(hx:x<2 ^ 64):
  Calls Tryz.prog 195 #[.slice A n c, .int .i64 (m:Int), .int .u64 (x:Int)] w λ e w' =>∃A',e= .returned (.slice A' (n+m) (n+m))∧Sl w' 1 A' (n+m) (n+m) (cells (l++le m x))∧Mine w' w.heap.size 5 A' (n+m) (cells (l++le m x))∧Below w.heap.size w w':=by
 go_enter Tryz.func195,Tryz.ntmps195;go_wp2_with fail;refine(jc3 (m:Int) (by omega) (by omega) _).mono ?_;rintro e w' ⟨rfl,rfl⟩;go_wp2_with fail;refine(jc4 A n c h.cap h.top _).mono ?_;rintro e w' ⟨rfl,rfl⟩;go_wp2_with fail;go_loopw [7,18] (λ v i wr=>∃(k:Nat) (A':Option Addr) (n' c':Nat),k<=m∧i= .int .i64 (k:Int)∧v= .slice A' n' c' ∧Own wr w.heap.size 5 1 A' n' c' (cells (l++le k x))∧Below w.heap.size w wr∧(0<k->wr.ownsRow w.heap.size 5 1 (.slice A' n' c') n' (cells (l++le k x)))) (λ _ i _=>m-(intOf i).toNat)
 case atStart=>exact⟨0,A,n,n,by omega,rfl,rfl,by simpa [le] using Own.full (h.recap (Nat.le_refl _) h.lim),Below.refl _ _,λ h=>absurd h (by omega)⟩
 case round=>
  obtain⟨k,A',n',c',hk,rfl,rfl,ho,hb,hm⟩:=hrel;have Hm:=qH hm;clear hm;have hlen:=ho.sl.len;rw [jaa,List.length_append,jak] at hlen;have hl:=h.len;rw [jaa] at hl;have hnn:n' =n+k:=by omega
  by_cases hlt:k<m
  ·have hb8:=jgu x k
   have Hb:=qH hb8;clear hb8;have Hl:=qH hlen;clear hlen;have Hl2:=qH hl;clear hl;have Hnn:=qH hnn;clear hnn;go_wp2_with (at_builtin;refine jaG (B:=w.heap.size) rfl (.tmp 21) (.tmp 27) rfl rfl (ho.alloc _) ?c1 (some ⟨wr.heap.size,0,none⟩) 1 1 [UInt8.ofNat (x / 256 ^ k)] rfl (Sl.one _ _ _ _ Hb.out) ?c3 ?c4)
   case c1=>have:=hb.size;simp;omega
   case c3=>have:=Hl.out;have:=Hl2.out;omega
   intro A2 c2 w2 ho2 hb2 hm2;have Hm2:=qH hm2;clear hm2;go_wp2_with fail;go_roundw
   case rel=>exact⟨k+1,A2,n'+1,c2,by omega,by go_num,rfl,by simpa [le,jai,List.append_assoc] using ho2,(hb.alloc hb.size _).trans hb2,λ _=>by simpa [le,jai,List.append_assoc] using Hm2.out⟩
   case measure=>simp [intOf];omega
  ·clear hlen hl
   have Hnn:=qH hnn;clear hnn;go_wp2_with fail;refine(jc4 A' n' c' ho.sl.cap ho.sl.top _).mono ?_;rintro e w' ⟨rfl,rfl⟩;go_wp2_with fail;go_ret;obtain rfl:k=m:=by omega
   obtain rfl:=Hnn.out;exact⟨A',rfl,ho.sl.recap (Nat.le_refl _) ho.sl.lim,Mine.of_own (Hm.out (by omega)),hb⟩
structure Pz (w:World)(b1 b2:Nat)(f:Bool)(l:List UInt8):Prop where
 p:w.heap[b2]? =some (.cells #[.pointer (some ⟨b1,0,none⟩)] 307 (0,0))
 ne:b2≠b1
 v:∃A c,w.heap[b1]? =some (.cells #[.slice A l.length c] 105 (0,0))∧Sl w 1 A l.length c (cells l)∧Mine w (b1+1) 5 A l.length (cells l)∧(f=true->c=l.length)
section
variable {w w':World}{b1 b2:Nat}{f:Bool}{l:List UInt8}
theorem Pz.pc (h:Pz w b1 b2 f l):w.cell? ⟨b2,0,none⟩=some (.pointer (some ⟨b1,0,none⟩)):=by rw [cell_of_row _ _ _ _ _ _ h.p];rfl
theorem Pz.later (h:Pz w b1 b2 f l)(hb:Below w.heap.size w w'):Pz w' b1 b2 f l:=by
 obtain⟨A,c,h1,h2,h3,h4⟩:=h.v;exact⟨(hb.block _ (block_lt h.p)).trans h.p,h.ne,A,c,(hb.block _ (block_lt h1)).trans h1,h2.below hb (Nat.le_refl _),h3.later hb,h4⟩
theorem Pz.set {k:List UInt8}{A:Option Addr}{n c:Nat}{w0:World}(h:Pz w0 b1 b2 f l)(hb:Below w0.heap.size w0 w)(hs:Sl w 1 A n c (cells k))(hn:n=k.length)(hm:Mine w (b1+1) 5 A n (cells k)){g:Bool}(hg:g=true->c=n):Pz (w.setCell ⟨b1,0,none⟩ (.slice A n c)) b1 b2 g k∧Fr (λ b=>b=b1) w0 (w.setCell ⟨b1,0,none⟩ (.slice A n c)):=by
 subst hn;have h':=h.later hb;have hF:Fr (λ b=>b=b1) w (w.setCell ⟨b1,0,none⟩ (.slice A k.length c)):=(Fr.refl (λ b=>b=b1) _).setCell (p:=⟨b1,0,none⟩) (.inr rfl) _;have hlt:∀b,b=b1->b<b1+1:=λ b hb=>by omega
 obtain⟨A0,c0,h1,_⟩:=h'.v;exact⟨⟨hF.row_some h'.p h'.ne,h'.ne,A,c,heap_setCell_same _ b1 0 _ _ _ h1,hm.slFr hs hF hlt,hm.fr hF hlt,hg⟩,(Fr.of_below hb).trans hF⟩
end
end
section
def jra (b1 b2:Nat)(f:Bool)(l:List UInt8)(w:World)(e:Ending)(w':World):Prop:=e= .returned (.tuple #[])∧Pz w' b1 b2 f l∧Fr (λ b=>b=b1) w w'
theorem jln (b1 b2 m x:Nat)(f:Bool)(l:List UInt8)(w:World)(h:Pz w b1 b2 f l)(hl:l.length<=1000)(hm1:1<=m)(hm8:m<=8)(hx:x<2 ^ 64):
  Calls Tryz.prog 240 #[.int .i64 (m:Int), .int .u64 (x:Int), .pointer (some ⟨b2,0,none⟩)] w (jra b1 b2 true (l++le m x) w):=by
 obtain⟨AZ,cz,hv,hs,hmn,hfl⟩:=h.v;have HP:=qH (show w.drew.cell? ⟨b2,0,none⟩=_ from h.pc);have NE:=qH (show ¬(λ b=>b=b1) b2 from h.ne);have c1:w.cell? ⟨b1,0,none⟩=some (.slice AZ l.length cz):=by rw [cell_of_row _ _ _ _ _ _ hv];rfl
 have f1:w.frozen? ⟨b1,0,none⟩=false:=frozen_of_row _ _ _ _ _ hv;have HS:=qH (show Sl w.drew 1 AZ l.length cz (cells l) from hs.drew);have LT:=qH (block_lt hv);have HZ:=qH h;clear h hv hs hmn hfl;go_enter Tryz.func240,Tryz.ntmps240;go_wp2_with fail;refine wp_region_held_drew (S:=λ w' =>Fr (λ b=>b=b1) w.drew w') (by kernel_rfl) (Fr.refl _ _) (λ hHeld=> ?_);clear hHeld;refine tL 0 (some 5) (v:= ?vn0) rfl ?yn0 (Fr.refl _ _) ?rn0
 case yn0=>
  intro wq hSw
  (try dsimp only at hSw)
  have hq:=hSw.cell_some HP.out NE.out;go_simp<;>with_reducible rfl
 try simp only [Act.put,sA,sB,sC]
 refine tL 1 (some 6) (v:= ?vn1) rfl ?yn1 (Fr.refl _ _) ?rn1
 case yn1=>
  intro wq hSw
  (try dsimp only at hSw)
  have hq:=hSw.cell_some HP.out NE.out;go_simp<;>with_reducible rfl
 try simp only [Act.put,sA,sB,sC]
 refine tA 2 (some 7) rfl (Fr.refl _ _) ?_;refine tA 4 (some 9) rfl (Fr.refl _ _) ?_;refine tA 5 (some 10) rfl (Fr.refl _ _) ?_;refine rW 3 (some 8) rfl λ K hK=> ?_
 go_simp;refine hK.out _ _ (Fr.refl _ _) (λ hHeld=> ?_);clear hK K hHeld
 try simp only [Act.put,sA,sB,sC]
 refine rW 6 (some 11) rfl λ K hK=> ?_
 go_simp;refine(jpm AZ l.length cz l m x _ HS.out (by omega) hm1 hm8 hx).mono ?_;rintro e w1 ⟨A1,rfl,hs1,hmn1,hb1⟩;have hfr:=Fr.of_below (S:=λ b=>b=b1) hb1;have q1:=(hb1.cell (p:=⟨b1,0,none⟩) LT.out).trans (show w.drew.cell? ⟨b1,0,none⟩=_ from c1);have u1:=(hb1.frozen (p:=⟨b1,0,none⟩) LT.out).trans (show w.drew.frozen? ⟨b1,0,none⟩=_ from f1);have HST:=qH ((show Pz w.drew b1 b2 f l from HZ.out.later (Below.drew (Below.refl _ _))).set hb1 hs1 (k:=l++le m x) (by rw [List.length_append,jak]) (hmn1.lower (by show b1+1<=w.heap.size;exact LT.out)) (g:=true) (λ _=>rfl));clear hs1 hmn1 hb1 c1 f1;go_wp2_with fail;refine hK.out _ _ hfr (λ hHeld=> ?_);clear hK K hHeld
 try simp only [Act.put,sA,sB,sC]
 refine jac (S':=λ w' =>Fr (λ b=>b=b1) w1 w') (λ w' h=>hfr.trans h) ?_;clear hfr;refine tA 7 (some 12) rfl (Fr.refl _ _) ?_;refine rW 8 none rfl λ K hK=> ?_
 go_simp;have hst:=HST.out;obtain⟨w2,hw⟩:∃v,v=w1.setCell ⟨b1,0,none⟩ (.slice A1 (l.length+m) (l.length+m)):=⟨_,rfl⟩;rw [<-hw] at hst ⊢;have HST2:=qH hst;have hfr:Fr (λ b=>b=b1) w1 w2:=by rw [hw];exact(Fr.refl (λ b=>b=b1) _).setCell (p:=⟨b1,0,none⟩) (.inr rfl) _
 clear hw hst q1 u1;refine hK.out _ _ hfr (λ hHeld=> ?_);clear hK K hHeld
 try simp only [Act.put]
 refine jac (S':=λ w' =>Fr (λ b=>b=b1) w2 w') (λ w' h=>hfr.trans h) ?_;clear hfr;refine tD ?_;go_wp2_with fail;go_end0;exact⟨rfl,HST2.out.1,(Fr.drew (Fr.refl _ w)).trans HST2.out.2⟩
theorem jpn (b1 b2:Nat)(b:List UInt8)(l:List UInt8)(w:World)(h:Pz w b1 b2 true l)(hl:l.length<=1000):
  Calls Tryz.prog 241 #[.agg (cells (jaB b)).toArray, .pointer (some ⟨b2,0,none⟩)] w (jra b1 b2 false (l++jaB b) w):=by
 obtain⟨w0,hw0⟩:∃w0,w0=w.alloc (.cells (cells (jaB b)).toArray 242):=⟨_,rfl⟩;have hb0:Below w.heap.size w w0:=by rw [hw0];exact(Below.refl _ _).alloc (Nat.le_refl _) _
 have h0:=h.later hb0;obtain⟨AZ,cz,hv,hs,hmn,hfl⟩:=h0.v;obtain rfl:=hfl rfl;have HP:=qH (show w0.drew.cell? ⟨b2,0,none⟩=_ from h0.pc);have NE:=qH (show ¬(λ b=>b=b1) b2 from h.ne);have c1:w0.cell? ⟨b1,0,none⟩=some (.slice AZ l.length l.length):=by rw [cell_of_row _ _ _ _ _ _ hv];rfl
 have f1:w0.frozen? ⟨b1,0,none⟩=false:=frozen_of_row _ _ _ _ _ hv;have HO:=qH (show Own w0.drew w0.drew.heap.size 5 1 AZ l.length l.length (cells l) from Own.full hs.drew);have LT:=qH (block_lt hv);have HZ0:=qH h0;have hsrc0:Sl w0 1 (some ⟨w.heap.size,0,none⟩) 44 44 (cells (jaB b)):=by
  rw [hw0];have:=Sl.made w (cells (jaB b)).toArray 242 1 44 (by rw [List.size_toArray,jaa,jaO]) (by decide)
  simpa using this
 have HSRC:=qH (hsrc0.drew.src Tryz.underlying105 (by decide) (cells_one (jaB b)));obtain⟨i0,hi,hz0,hz1,hz2⟩:=info_parts jbf;have Hi:=qH hi;have Hz0:=qH hz0;have Hz1:=qH hz1;have Hz2:=qH hz2;have HB0:=qH hb0;have Hw0:=qH hw0;clear h h0 hv hs hmn hsrc0 hi hz0 hz1 hz2 hb0 hw0 hfl;go_enter Tryz.func241,Tryz.ntmps241;go_wp2_with fail;rw [<-Hw0.out];refine wp_region_held_drew (S:=λ w' =>Fr (λ b=>b=b1) w0.drew w') (by kernel_rfl) (Fr.refl _ _) (λ hHeld=> ?_);clear hHeld;refine tL 0 (some 3) (v:= ?vb0) rfl ?yb0 (Fr.refl _ _) ?rb0
 case yb0=>
  intro wq hSw
  (try dsimp only at hSw)
  have hq:=hSw.cell_some HP.out NE.out;go_simp<;>with_reducible rfl
 try simp only [Act.put,sA,sB,sC]
 refine tL 1 (some 4) (v:= ?vb1) rfl ?yb1 (Fr.refl _ _) ?rb1
 case yb1=>
  intro wq hSw
  (try dsimp only at hSw)
  have hq:=hSw.cell_some HP.out NE.out;go_simp<;>with_reducible rfl
 try simp only [Act.put,sA,sB,sC]
 refine tA 2 (some 5) rfl (Fr.refl _ _) ?_;refine tA 4 (some 7) rfl (Fr.refl _ _) ?_;refine rW 3 (some 6) rfl λ K hK=> ?_
 go_simp;refine hK.out _ _ (Fr.refl _ _) (λ hHeld=> ?_);clear hK K hHeld
 try simp only [Act.put,sA,sB,sC]
 refine rW 5 (some 8) rfl λ K hK=> ?_
 refine jb8 (o:=⟨some 8,_,_,_,_,_⟩) (.tmp 6) (.tmp 7) 105 105 rfl i0 (.int .u8 0) 1 Tryz.underlying105 Hi.out Hz0.out Hz1.out Hz2.out rfl (by decide) rfl HO.out (Nat.le_refl _) 44 (cells (jaB b)) _ rfl HSRC.out (by unfold maxLen;omega) (by omega) ?_;intro A1 c1' w1 ho1 hb1 hm1;have hfr:=Fr.of_below (S:=λ b=>b=b1) hb1;have q1:=(hb1.cell (p:=⟨b1,0,none⟩) LT.out).trans (show w0.drew.cell? ⟨b1,0,none⟩=_ from c1);have u1:=(hb1.frozen (p:=⟨b1,0,none⟩) LT.out).trans (show w0.drew.frozen? ⟨b1,0,none⟩=_ from f1);have hso:=ho1.sl;rw [<-jai] at hso hm1;have hmn1:Mine w1 w0.drew.heap.size 5 A1 (l.length+44) (cells (l++jaB b)):=Mine.of_own (hm1 (by omega))
 have HST:=qH ((show Pz w0.drew b1 b2 true l from HZ0.out.later (Below.drew (Below.refl _ _))).set hb1 hso (k:=l++jaB b) (by rw [List.length_append,jaO]) (hmn1.lower (by show b1+1<=w0.heap.size;exact LT.out)) (g:=false) (λ h=>by cases h));clear hso hmn1 ho1 hm1 hb1 c1 f1;refine hK.out _ _ hfr (λ hHeld=> ?_);clear hK K hHeld
 try simp only [Act.put,sA,sB,sC]
 refine jac (S':=λ w' =>Fr (λ b=>b=b1) w1 w') (λ w' h=>hfr.trans h) ?_;clear hfr;refine tA 6 (some 9) rfl (Fr.refl _ _) ?_;refine rW 7 none rfl λ K hK=> ?_
 go_simp;have hst:=HST.out;obtain⟨w2,hw⟩:∃v,v=w1.setCell ⟨b1,0,none⟩ (.slice A1 (l.length+44) c1'):=⟨_,rfl⟩;rw [<-hw] at hst ⊢;have HST2:=qH hst;have hfr:Fr (λ b=>b=b1) w1 w2:=by rw [hw];exact(Fr.refl (λ b=>b=b1) _).setCell (p:=⟨b1,0,none⟩) (.inr rfl) _
 clear hw hst q1 u1;refine hK.out _ _ hfr (λ hHeld=> ?_);clear hK K hHeld
 try simp only [Act.put]
 refine jac (S':=λ w' =>Fr (λ b=>b=b1) w2 w') (λ w' h=>hfr.trans h) ?_;clear hfr;refine tD ?_;go_wp2_with fail;go_end0;exact⟨rfl,HST2.out.1,(Fr.of_below HB0.out).trans ((Fr.drew (Fr.refl _ w0)).trans HST2.out.2)⟩
end
section
theorem jaJ {P:Program}{ops:Array Oper}{Q:Exit->Act->World->Prop}{d:Nat}{op:Op}{ty:TypeId}{pos:String}{af:Array Edge}{gd:Option (Tmp × Bool)}{rest:List Oper}{a:Act}{w:World}(h:wpList P ops Q (⟨some d,op,ty,pos,af,gd⟩::rest) a w):wpList P ops Q (⟨some d,op,ty,pos,af,gd⟩::rest) a w:=h
theorem jbQ (b1 b2 m x:Nat)(f:Bool)(l:List UInt8)(w:World)(h:Pz w b1 b2 f l)(hl:l.length<=1000)(hm1:1<=m)(hm8:m<=8)(hx:x<2 ^ 64)(k z:Int)(hk:k=(m:Int))(hz:z=(x:Int)):
  Calls Tryz.prog 240 #[.int .i64 k, .int .u64 z, .pointer (some ⟨b2,0,none⟩)] w (jra b1 b2 true (l++le m x) w):=by
 subst hk hz;exact jln b1 b2 m x f l w h hl hm1 hm8 hx
theorem jji (b1:Nat)(w:World):Calls Tryz.prog 206 #[.pointer (some ⟨b1,0,none⟩)] w λ e w' =>e= .returned (.tuple #[.func (.func 240) #[] #[.pointer (some ⟨w.heap.size,0,none⟩)], .func (.func 241) #[] #[.pointer (some ⟨w.heap.size,0,none⟩)]])∧w' =w.alloc (.cells #[.pointer (some ⟨b1,0,none⟩)] 307):=by
 go_enter Tryz.func206,Tryz.ntmps206;go_wp2_with fail;go_ret2;exact⟨rfl,rfl⟩
theorem jpo (s:Sh)(hs:s.Ok)(hk:s.kn=true)(w:World)(hN:Nt w):Calls Tryz.prog 148 #[.agg s.cs.toArray] w λ e w' =>∃A,e= .returned (.tuple #[.slice A 64 64, .int .i64 0])∧Sl w' 1 A 64 64 (cells s.sector)∧Mine w' w.heap.size 5 A 64 (cells s.sector)∧Below w.heap.size w w':=by
 obtain⟨w0,hw0⟩:∃w0,w0=w.alloc (.cells s.cs.toArray 244):=⟨_,rfl⟩;have hb0:Below w.heap.size w w0:=by rw [hw0];exact(Below.refl _ _).alloc (Nat.le_refl _) _
 have hS0:ShB w0 w.heap.size s:=by rw [hw0];exact ShB.new w s
 have hz0:w0.heap.size=w.heap.size+1:=by rw [hw0];simp
 have hh:=jhV s.kind w0;rw [show (decide (1<=s.kind.toNat) && decide (s.kind.toNat<=4))=true from hk] at hh;have ck:=hS0.k;have Hw0:=qH hw0;have Hz0:=qH hz0;have HB0:=qH hb0;have HS0:=qH hS0;have HOK:=qH hs;have HN:=qH hN;have lk:=s.kind.toNat_lt;have li:=s.idx.toNat_lt;have lp:=hs.place;have lg:=hs.gen;have lz:=hs.size;clear hw0 hS0 hk hb0 hz0 hs hN;go_enter Tryz.func148,Tryz.ntmps148;go_wp2_with (rw [<-Hw0.out]);refine hh.mono ?_;clear hh;rintro e w' ⟨rfl,hw'⟩;obtain rfl:w0=w':=hw';go_wp2_with fail;refine(jji _ _).mono ?_;rintro e w1 ⟨rfl,hw1⟩;have hP:Pz w1 w0.heap.size (w0.heap.size+1) true []:=by
  rw [hw1];refine⟨?_,by omega,none,0, ?_,Sl.nil _ _ _ (by decide),λ h=>absurd h (by decide),λ _=>rfl⟩
  ·have:=heap_alloc_new (w0.alloc (.cells #[.slice none 0 0] 105)) (.cells #[.pointer (some ⟨w0.heap.size,0,none⟩)] 307)
   simpa using this
  ·exact(Below.heap_alloc _ _ _ (by simp)).trans (heap_alloc_new w0 _)
 have hb01:Below w0.heap.size w0 w1:=by rw [hw1];exact((Below.refl _ _).alloc (Nat.le_refl _) _).alloc (by simp) _
 have hne:¬(w.heap.size=w0.heap.size):=by have:=Hz0.out;omega
 have S1:=qH (HS0.out.later hb01);have P1:=qH hP;have Q1:=qH (HB0.out.trans (hb01.mono (by have:=Hz0.out;omega)));have L1:([]:List UInt8).length=0:=rfl;have NE:=qH hne;have hc:=S1.out.k;clear hw1 ck hP hb01 hne;go_wp2_with fail;refine(jbQ w0.heap.size (w0.heap.size+1) 1 s.kind.toNat _ [] w1 P1.out (by rw [L1];decide) (by decide) (by decide) (by omega) _ _ rfl ?z1).mono ?_
 case z1=>first|rfl|omega
 rintro e w2 ⟨rfl,hz,hf⟩;obtain⟨l2,el2⟩:∃v,v= [] ++ le 1 s.kind.toNat:=⟨_,rfl⟩;rw [<-el2] at hz;have L2:l2.length=1:=by rw [el2,List.length_append,jak,L1]
 have P2:=qH hz;have S2:=qH (S1.out.fr hf NE.out);have Q2:=qH (Q1.out.trans (hf.below (by have:=Q1.out.size;omega) (λ b hb=>by have h1:b=w0.heap.size:=hb;have:=Hz0.out;omega)));have N2:=qH el2;clear hz hf hc L1 el2;have hc:=S2.out.i;go_wp2_with fail;refine(jbQ w0.heap.size (w0.heap.size+1) 1 s.idx.toNat _ l2 w2 P2.out (by rw [L2];decide) (by decide) (by decide) (by omega) _ _ rfl ?z2).mono ?_
 case z2=>first|rfl|omega
 rintro e w3 ⟨rfl,hz,hf⟩;obtain⟨l3,el3⟩:∃v,v=l2++le 1 s.idx.toNat:=⟨_,rfl⟩;rw [<-el3] at hz;have L3:l3.length=2:=by rw [el3,List.length_append,jak,L2]
 have P3:=qH hz;have S3:=qH (S2.out.fr hf NE.out);have Q3:=qH (Q2.out.trans (hf.below (by have:=Q2.out.size;omega) (λ b hb=>by have h1:b=w0.heap.size:=hb;have:=Hz0.out;omega)));have N3:=qH el3;clear hz hf hc L2 el3;have hc:=S3.out.p;go_wp2_with fail;refine(jbQ w0.heap.size (w0.heap.size+1) 2 s.place _ l3 w3 P3.out (by rw [L3];decide) (by decide) (by decide) (by omega) _ _ rfl ?z3).mono ?_
 case z3=>first|rfl|omega
 rintro e w4 ⟨rfl,hz,hf⟩;obtain⟨l4,el4⟩:∃v,v=l3++le 2 s.place:=⟨_,rfl⟩;rw [<-el4] at hz;have L4:l4.length=4:=by rw [el4,List.length_append,jak,L3]
 have P4:=qH hz;have S4:=qH (S3.out.fr hf NE.out);have Q4:=qH (Q3.out.trans (hf.below (by have:=Q3.out.size;omega) (λ b hb=>by have h1:b=w0.heap.size:=hb;have:=Hz0.out;omega)));have N4:=qH el4;clear hz hf hc L3 el4;have hc:=S4.out.g;go_wp2_with fail;refine(jbQ w0.heap.size (w0.heap.size+1) 8 s.gen _ l4 w4 P4.out (by rw [L4];decide) (by decide) (by decide) (by omega) _ _ rfl ?z4).mono ?_
 case z4=>first|rfl|omega
 rintro e w5 ⟨rfl,hz,hf⟩;obtain⟨l5,el5⟩:∃v,v=l4++le 8 s.gen:=⟨_,rfl⟩;rw [<-el5] at hz;have L5:l5.length=12:=by rw [el5,List.length_append,jak,L4]
 have P5:=qH hz;have S5:=qH (S4.out.fr hf NE.out);have Q5:=qH (Q4.out.trans (hf.below (by have:=Q4.out.size;omega) (λ b hb=>by have h1:b=w0.heap.size:=hb;have:=Hz0.out;omega)));have N5:=qH el5;clear hz hf hc L4 el5;have hc:=S5.out.z;go_wp2_with fail;refine(jbQ w0.heap.size (w0.heap.size+1) 2 s.size _ l5 w5 P5.out (by rw [L5];decide) (by decide) (by decide) (by omega) _ _ rfl ?z5).mono ?_
 case z5=>first|rfl|omega
 rintro e w6 ⟨rfl,hz,hf⟩;obtain⟨l6,el6⟩:∃v,v=l5++le 2 s.size:=⟨_,rfl⟩;rw [<-el6] at hz;have L6:l6.length=14:=by rw [el6,List.length_append,jak,L5]
 have P6:=qH hz;have S6:=qH (S5.out.fr hf NE.out);have Q6:=qH (Q5.out.trans (hf.below (by have:=Q5.out.size;omega) (λ b hb=>by have h1:b=w0.heap.size:=hb;have:=Hz0.out;omega)));have N6:=qH el6;clear hz hf hc L5 el6;have hc:=S6.out.k;go_wp2_with fail;refine(jbQ w0.heap.size (w0.heap.size+1) 2 0 _ l6 w6 P6.out (by rw [L6];decide) (by decide) (by decide) (by omega) _ _ rfl ?z6).mono ?_
 case z6=>first|rfl|omega
 rintro e w7 ⟨rfl,hz,hf⟩;obtain⟨l7,el7⟩:∃v,v=l6++le 2 0:=⟨_,rfl⟩;rw [<-el7] at hz;have L7:l7.length=16:=by rw [el7,List.length_append,jak,L6]
 have P7:=qH hz;have S7:=qH (S6.out.fr hf NE.out);have Q7:=qH (Q6.out.trans (hf.below (by have:=Q6.out.size;omega) (λ b hb=>by have h1:b=w0.heap.size:=hb;have:=Hz0.out;omega)));have N7:=qH el7;clear hz hf hc L6 el7;have hc:=S7.out.text;have hsz:=jc0 s.body;go_wp2_with (refine jaJ (d:=43) ?_;refine wpList_load_mid (op:=⟨some 43,_,_,_,_,_⟩) rfl 242 (.tmp 42) rfl w.heap.size 5 rfl (cells (jaB s.body)) _ hc Tryz.underlying242 rfl hsz ?_);clear hsz;refine(jpn w0.heap.size (w0.heap.size+1) s.body l7 w7 P7.out (by rw [L7];decide)).mono ?_;rintro e w8 ⟨rfl,hz,hf⟩;obtain⟨l8,el8⟩:∃v,v=l7++jaB s.body:=⟨_,rfl⟩;rw [<-el8] at hz;have L8:l8.length=60:=by rw [el8,List.length_append,jaO,L7]
 have P8:=qH hz;have S8:=qH (S7.out.fr hf NE.out);have Q8:=qH (Q7.out.trans (hf.below (by have:=Q7.out.size;omega) (λ b hb=>by have h1:b=w0.heap.size:=hb;have:=Hz0.out;omega)));have N8:=qH el8;clear hz hf hc L7 el8;obtain⟨A8,c8,hv8,hs8,hm8, -⟩:=P8.out.v;have hc:w8.cell? ⟨w0.heap.size,0,none⟩=some (.slice A8 60 c8):=by rw [cell_of_row _ _ _ _ _ _ hv8,L8];rfl
 rw [L8] at hs8;have hs:=jjq A8 60 c8 l8 w8 hs8 (HN.out.keep Q8.out);have e8:l8=s.head:=by
  rw [N8.out,N7.out,N6.out,N5.out,N4.out,N3.out,N2.out,jqk,jqk,jeQ HOK.out.body,Sh.head]
  rfl
 have E8:=qH e8;clear hv8 hs8 hm8 e8;go_wp2_with fail;refine hs.mono ?_;clear hs;rintro e wS ⟨rfl,hbS⟩;have PS:=qH (P8.out.later hbS);have QS:=qH (Q8.out.trans (hbS.mono Q8.out.size));clear hbS hc;have hlt:=jgW l8;have hsu:(more 0 l8).toNat=sumOf l8:=rfl;rw [hsu];clear hsu;go_wp2_with fail;refine(jbQ w0.heap.size (w0.heap.size+1) 4 (sumOf l8) _ l8 wS PS.out (by rw [L8];decide) (by decide) (by decide) (by omega) _ _ rfl ?z8).mono ?_
 case z8=>first|rfl|omega
 rintro e w9 ⟨rfl,hz,hf⟩;have hsec:l8++le 4 (sumOf l8)=s.sector:=by rw [Sh.sector,closed,E8.out]
 rw [hsec] at hz;have Q9:=qH (QS.out.trans (hf.below (by have:=QS.out.size;omega) (λ b hb=>by have h1:b=w0.heap.size:=hb;have:=Hz0.out;omega)));have hl:=HOK.out.sector_len;obtain⟨A9,c9,hv9,hs9,hm9,hf9⟩:=hz.v;obtain rfl:=hf9 rfl;rw [hl] at hv9 hs9 hm9;have hc2:w9.cell? ⟨w0.heap.size,0,none⟩=some (.slice A9 64 64):=by rw [cell_of_row _ _ _ _ _ _ hv9];rfl
 have K1:=qH hs9;have K2:=qH (hm9.lower (B':=w.heap.size) (by have:=Hz0.out;omega));clear hz hf hv9 hs9 hm9 hl hsec hf9 L8 hlt;go_wp2_with fail;go_ret2;exact⟨A9,rfl,K1.out,K2.out,Q9.out⟩
end
section
theorem jaP {P:Program}{ops:Array Oper}{Q:Exit->Act->World->Prop}{t:TypeId}{x y:Operand}{ty:TypeId}{pos:String}{af:Array Edge}{gd:Option (Tmp × Bool)}{rest:List Oper}{a:Act}{w:World}(h:wpList P ops Q (⟨none, .store t x y,ty,pos,af,gd⟩::rest) a w):wpList P ops Q (⟨none, .store t x y,ty,pos,af,gd⟩::rest) a w:=h
theorem ja6 {P:Program}{ops:Array Oper}{rest:List Oper}{o:Oper}{a:Act}{Q:Exit->Act->World->Prop}(hgd:o.guard=none)(ty:TypeId)(x y:Operand)(ho:o.op= .store ty x y)(w0:World)(old new:Array Value)(t:TypeId)
  (hx:a.eval x= .pointer (some ⟨w0.heap.size,0,none⟩))(hy:a.eval y= .agg new)(hi:(P.info? ty).map (·.size)=some new.size)(hold:old.size=new.size)(h1:new.all (·.oneCell')=true)
  (h:wpList P ops Q rest (a.put o.dst undef) (w0.alloc (.cells new t))):wpList P ops Q (o::rest) a (w0.alloc (.cells old t)):=
 wpList_store_row hgd ty x y ho w0.heap.size new hx hy t old (heap_alloc_new w0 _) hi hold h1 (by rw [World.setRow_alloc_new];exact h)
structure Tk (w:World)(t0 t1:Nat)(A:Option Addr)(n c:Nat)(l:List UInt8)(a:Nat):Prop where
 s0:w.heap[t0]? =some (.cells #[.slice A n c] 105 (0,0))
 s1:w.heap[t1]? =some (.cells #[.int .i64 (a:Int)] 3 (0,0))
 ne:t0≠t1
 sl:Sl w 1 A n c (cells l)
 off:∀b o,0<n->A=some ⟨b,o,none⟩->b≠t1
section
variable {w w':World}{t0 t1 n c a:Nat}{A:Option Addr}{l:List UInt8}
theorem Tk.c0 (h:Tk w t0 t1 A n c l a):w.cell? ⟨t0,0,none⟩=some (.slice A n c):=by rw [cell_of_row _ _ _ _ _ _ h.s0];rfl
theorem Tk.c1 (h:Tk w t0 t1 A n c l a):w.cell? ⟨t1,0,none⟩=some (.int .i64 (a:Int)):=by rw [cell_of_row _ _ _ _ _ _ h.s1];rfl
theorem Tk.f1 (h:Tk w t0 t1 A n c l a):w.frozen? ⟨t1,0,none⟩=false:=frozen_of_row _ _ _ _ _ h.s1
theorem Tk.later (h:Tk w t0 t1 A n c l a)(hb:Below w.heap.size w w'):Tk w' t0 t1 A n c l a:=
 ⟨(hb.block _ (block_lt h.s0)).trans h.s0,(hb.block _ (block_lt h.s1)).trans h.s1,h.ne,h.sl.below hb (Nat.le_refl _),h.off⟩
theorem Tk.frNew {w0:World}(h:Tk w t0 t1 A n c l a)(hk:∀k,k<w0.heap.size->w'.heap[k]? =w.heap[k]?)(h0:t0<w0.heap.size)(h1:t1<w0.heap.size)(hA:∀b o,0<n->A=some ⟨b,o,none⟩->b<w0.heap.size):Tk w' t0 t1 A n c l a:=
 ⟨(hk _ h0).trans h.s0,(hk _ h1).trans h.s1,h.ne,⟨h.sl.len,h.sl.cap,h.sl.top,λ j u hu=>by
  obtain⟨b,o,e,hc⟩:=h.sl.cell j u hu;have hn:0<n:=by
   have h1:=h.sl.len;have h2:=(List.getElem?_eq_some_iff.1 hu).1;omega
  exact⟨b,o,e,(World.cell?_of_block (w:=w) (hk b (hA b o hn e))).trans hc⟩⟩,h.off⟩
theorem Fr.setRow {S:Nat->Prop}{a:World}(h:Fr S a w){g:Nat}(hg:a.heap.size<=g)(cs:Array Value):Fr S a (w.setRow g cs):=
 ⟨h.os,h.tape,h.output,by simpa using h.size,λ k hk hs=>(setRow_other _ _ _ _ (by omega)).trans (h.block k hk hs)⟩
theorem Tk.step (h:Tk w t0 t1 A n c l a)(k:Nat):Tk (w.setCell ⟨t1,0,none⟩ (.int .i64 ((a+k:Nat):Int))) t0 t1 A n c l (a+k)∧Fr (λ b=>b=t1) w (w.setCell ⟨t1,0,none⟩ (.int .i64 ((a+k:Nat):Int))):=by
 have hF:Fr (λ b=>b=t1) w (w.setCell ⟨t1,0,none⟩ (.int .i64 ((a+k:Nat):Int))):=(Fr.refl (λ b=>b=t1) _).setCell (p:=⟨t1,0,none⟩) (.inr rfl) _;exact⟨⟨hF.row_some h.s0 h.ne,heap_setCell_same _ t1 0 _ _ _ h.s1,h.ne,h.sl.fr hF h.off,h.off⟩,hF⟩
end
theorem jjj (t0 t1 n c a m:Nat)(A:Option Addr)(l:List UInt8)(w:World)(h:Tk w t0 t1 A n c l a)(hn:n<=100)(h1:1<=m)(h8:m<=8)(ha:a+m<=n):
  Calls Tryz.prog 266 #[.int .i64 (m:Int), .pointer (some ⟨t0,0,none⟩), .pointer (some ⟨t1,0,none⟩)] w λ e w' =>e= .returned (.int .u64 (jat ((l.drop a).take m):Nat))∧Tk w' t0 t1 A n c l (a+m)∧Fr (λ b=>b=t1) w w':=by
 have c0:=h.c0;have c1:=h.c1;have f1:=h.f1;have hg:=jqm A n c l a m w h.sl h1 h8 ha;have hs:=h.step m;have e:((a:Int) +(m:Int))=((a+m:Nat):Int):=by omega
 have HS:=qH hs;have E:=qH e;clear hs h e;go_enter Tryz.func266,Tryz.ntmps266;go_wp2_with fail;refine hg.mono ?_;clear hg;rintro e w' ⟨rfl,hw'⟩;obtain rfl:w=w':=hw';go_wp2_with fail;go_ret;rw [E.out];exact⟨rfl,HS.out.1,HS.out.2⟩
theorem jnm (t0 t1 n c a:Nat)(A:Option Addr)(l:List UInt8)(w:World)(h:Tk w t0 t1 A n c l a)(hn:n<=100)(ha:a+44<=n):
  Calls Tryz.prog 267 #[.pointer (some ⟨t0,0,none⟩), .pointer (some ⟨t1,0,none⟩)] w λ e w' =>e= .returned (.agg (cells (jaB ((l.drop a).take 44))).toArray)∧Tk w' t0 t1 A n c l (a+44)∧Fr (λ b=>b=t1) w w':=by
 have hln:l.length=n:=by have:=h.sl.len;rw [jaa,Nat.mul_one] at this;exact this
 obtain⟨b,o,rfl,hcell⟩:=h.sl.at_ (k:=0) (by omega);have hcap:=h.sl.cap;have htop:=h.sl.top;unfold maxLen at htop;obtain⟨X,hX⟩:∃X,X=(l.drop a).take 44:=⟨_,rfl⟩;have hXl:X.length=44:=by rw [hX,List.length_take,List.length_drop];omega
 have hrg:w.rangeAt b (o+a) (cells (jaB X)):=λ j v hv=>by
  rw [jeQ hXl] at hv;have hj:j<44:=by
   rcases Nat.lt_or_ge j 44 with h' |h'
   ·exact h'
   ·rw [List.getElem?_eq_none (by rw [jaa,hXl];exact h')] at hv;cases hv
  rw [Nat.add_assoc];refine hcell (a+j) v ?_;rw [<-hv,hX,jc7,jc8,List.getElem?_take_of_lt hj,List.getElem?_drop]
 rw [<-hX];have hzv:=jpl;obtain⟨w0,hw0⟩:∃w0,w0=w.alloc (.cells (cells (jaB [])).toArray 242):=⟨_,rfl⟩;have hb0:Below w.heap.size w w0:=by rw [hw0];exact(Below.refl _ _).alloc (Nat.le_refl _) _
 have h0:=h.later hb0;have c0:=h0.c0;have c1:=h0.c1;have hca:¬(c:Int)=(a:Int):=by omega
 have hca2:¬c=a:=by omega
 have ha1:(a:Int)<=(n:Int):=by omega
 have hX44:(cells (jaB X)).toArray.size=44:=by rw [List.size_toArray,jaa,jaO]
 have hZ44:(cells (jaB [])).toArray.size=44:=by rw [List.size_toArray,jaa,jaO]
 have hone:(cells (jaB X)).toArray.all (·.oneCell')=true:=all_oneCell_toArray (cells_one _);have hsz:(Tryz.prog.info? 242).map (·.size)=some (cells (jaB X)).toArray.size:=by rw [List.size_toArray];exact jc0 X
 obtain⟨w1,hw1⟩:∃w1,w1=w0.alloc (.cells (cells (jaB X)).toArray 242):=⟨_,rfl⟩;have hb1:Below w0.heap.size w0 w1:=by rw [hw1];exact(Below.refl _ _).alloc (Nat.le_refl _) _
 have h1':=h0.later hb1;have hst:=h1'.step 44;rw [show ((a+44:Nat):Int)=(a:Int)+44 from by omega] at hst;have d1:=h1'.c1;have e1:=h1'.f1;have hbl:=h.sl.lt (by decide) (by omega) rfl;have HBL:=qH hbl;have hlt0:=block_lt h.s1;have hlt0':=block_lt h.s0;obtain⟨w2,hw2⟩:∃w2,w2=w1.setCell ⟨t1,0,none⟩ (.int .i64 ((a:Int)+44)):=⟨_,rfl⟩;rw [<-hw2] at hst;have hz0:w0.heap.size=w.heap.size+1:=by rw [hw0];simp
 have hg3:w2.heap[w0.heap.size]? =some (.cells (cells (jaB X)).toArray 242 (0,0)):=hst.2.row_some (by rw [hw1];exact heap_alloc_new w0 _) (by show ¬w0.heap.size=t1;omega);have hg2:w2.heap[w.heap.size]? =some (.cells (cells (jaB [])).toArray 242 (0,0)):=hst.2.row_some ((hb1.block _ (by omega)).trans (by rw [hw0];exact heap_alloc_new w _)) (by show ¬w.heap.size=t1;omega);have HG2:=qH hg2;have HG3:=qH hg3;have HW1:=qH hw1;have HW2:=qH hw2;have HST:=qH hst;have HB1:=qH hb1;have HX4:=qH hX44;have HZ4:=qH hZ44;have HON:=qH hone;have HSZ:=qH hsz;have HZ0:=qH hz0;have HLT:=qH (And.intro hlt0 hlt0');clear hbl hg2 hg3 hw1 hw2 hst hb1 h1' hX44 hZ44 hone hsz hz0 hlt0 hlt0';have har:=run_arrayAt (P:=Tryz.prog) w0 242 5 44 (some ⟨b,o+a,none⟩) (n-a) (c-a) Tryz.underlying242 (by omega);have H0:=qH h0;have HX:=qH hX
 have HR:=qH (show w0.rangeAt b (o+a) (cells (jaB X)) from λ j v hv=>(hb0.cell (World.block_lt_of_cell? w _ (hrg j v hv))).trans (hrg j v hv));have HB0:=qH hb0;have Hw0:=qH hw0;clear hX hrg hb0 h0 hw0 hcell h;go_enter Tryz.func267,Tryz.ntmps267;go_wp2_with (first
  |(rw [<-Hw0.out])
  |(refine jaJ (d:=8) ?_;refine wpList_load_mid (op:=⟨some 8,_,_,_,_,_⟩) rfl 242 (.tmp 7) rfl b (o+a) rfl (cells (jaB X)) _ HR.out Tryz.underlying242 rfl (jc0 X) ?_)
  |(refine jaP ?_;refine ja6 (o:=⟨none,_,_,_,_,_⟩) rfl 242 (.tmp 3) (.tmp 8) rfl w0 _ (cells (jaB X)).toArray 242 rfl rfl HSZ.out (HZ4.out.trans HX4.out.symm) HON.out ?_;rw [<-HW1.out])
  |(rw [<-HW2.out])
  |(refine jaJ (d:=11) ?_;refine wpList_load_row (o:=⟨some 11,_,_,_,_,_⟩) rfl 242 (.tmp 3) rfl w0.heap.size rfl 242 (cells (jaB X)).toArray (0,0) _ HG3.out Tryz.underlying242 rfl HSZ.out ?_)
  |(refine jaP ?_;refine wpList_store_row (o:=⟨none,_,_,_,_,_⟩) rfl 242 (.tmp 2) (.tmp 11) rfl w.heap.size (cells (jaB X)).toArray rfl rfl 242 _ HG2.out HSZ.out (HZ4.out.trans HX4.out.symm) HON.out ?_))
 have hF2:Fr (λ b=>b=t1) w w2:=(Fr.of_below HB0.out).trans ((Fr.of_below HB1.out).trans HST.out.2);refine bodyPost_ret (results_cell_row Tryz.results267 _ _ w.heap.size 242 _ (0,0) _ rfl (setRow_heap _ _ _ _ _ _ HG2.out) Tryz.underlying242 rfl HSZ.out) rfl ⟨rfl, ?_,hF2.setRow (Nat.le_refl _) _⟩;exact HST.out.1.frNew (w0:=w) (λ k hk=>setRow_other _ _ _ _ (by omega)) HLT.out.2 HLT.out.1 (λ b' o' hn' he=>by
  injection he with he
  injection he with he _
  subst he;exact HBL.out)
end
section
theorem jlo (A:Option Addr)(n c:Nat)(w:World):Calls Tryz.prog 244 #[.slice A n c] w λ e w' =>e= .returned (.tuple #[.func (.func 266) #[] #[.pointer (some ⟨w.heap.size,0,none⟩), .pointer (some ⟨w.heap.size+1,0,none⟩)], .func (.func 267) #[] #[.pointer (some ⟨w.heap.size,0,none⟩), .pointer (some ⟨w.heap.size+1,0,none⟩)]])∧w' =(w.alloc (.cells #[.slice A n c] 105)).alloc (.cells #[.int .i64 0] 3):=by
 go_enter Tryz.func244,Tryz.ntmps244;go_wp2_with fail;go_ret2;exact⟨rfl,rfl⟩
theorem Tk.new (w:World)(A:Option Addr)(n c:Nat)(l:List UInt8)(h:Sl w 1 A n c (cells l)):Tk ((w.alloc (.cells #[.slice A n c] 105)).alloc (.cells #[.int .i64 0] 3)) w.heap.size (w.heap.size+1) A n c l 0:=by
 refine⟨(Below.heap_alloc _ _ _ (by simp)).trans (heap_alloc_new w _), ?_,by omega,(h.alloc _).alloc _,λ b o hn hA=> ?_⟩
 ·have:=heap_alloc_new (w.alloc (.cells #[.slice A n c] 105)) (.cells #[.int .i64 0] 3)
  simpa using this
 ·have:=h.lt (by decide) hn hA
  omega
theorem Tk.fr {w w':World}{t0 t1 n c a:Nat}{A:Option Addr}{l:List UInt8}{S:Nat->Prop}(h:Tk w t0 t1 A n c l a)(hf:Fr S w w')(h0:¬S t0)(h1:¬S t1)(hA:∀b o,0<n->A=some ⟨b,o,none⟩->¬S b):Tk w' t0 t1 A n c l a:=
 ⟨hf.row_some h.s0 h0,hf.row_some h.s1 h1,h.ne,h.sl.fr hf hA,h.off⟩
theorem ShB.setBody {w:World}{b:Nat}{s:Sh}(h:ShB w b s)(X:List UInt8):ShB (w.setCells b 5 (cells (jaB X))) b ⟨s.kind,s.idx,s.place,s.gen,s.size,X⟩∧Fr (λ x=>x=b) w (w.setCells b 5 (cells (jaB X))):=by
 have hF:Fr (λ x=>x=b) w (w.setCells b 5 (cells (jaB X))):=by
  rw [ja8 (P:=default) h (by rw [List.size_toArray,Sh.cs_len,jaa,jaO];decide) (cells_one _)];exact⟨rfl,rfl,rfl,by simp,λ k hk hs=>setRow_other _ _ _ _ hs⟩
 refine⟨?_,hF⟩;unfold ShB;rw [ja8 (P:=default) h (by rw [List.size_toArray,Sh.cs_len,jaa,jaO];decide) (cells_one _),setRow_heap _ _ _ _ _ _ h]
 congr 3
theorem ShB.there {w:World}{b:Nat}{s:Sh}(h:ShB w b s):w.there b 5 44:=λ j hj=>⟨by rw [h.byte hj];rfl,h.free _⟩
end
section
theorem jlp (A:Option Addr)(n c:Nat)(hn:n≠64)(w:World):Calls Tryz.prog 211 #[.slice A n c] w λ e w' =>e= .returned (.tuple #[.agg (Sh.cs Sh.zero).toArray, .int .i64 2])∧Below w.heap.size w w':=by
 have hz:=jcn;have hbz:=jgs;have hd:((n:Int) !=64)=true:=by rw [bne_iff_ne];omega
 have hb:Below w.heap.size w (w.alloc (.cells (Sh.cs Sh.zero).toArray 244)):=(Below.refl _ _).alloc (Nat.le_refl _) _;have Hb:=qH hb;clear hb hn;have HSZ:=qH (jba Sh.zero);have HON:=qH (all_oneCell_toArray Sh.zero.cs_one);go_enter Tryz.func211,Tryz.ntmps211;go_wp2_with (refine jaP ?_;refine ja6 (o:=⟨none,_,_,_,_,_⟩) rfl 244 (.tmp 2) (.tmp 11) rfl w _ (Sh.cs Sh.zero).toArray 244 rfl rfl HSZ.out rfl HON.out ?_);refine bodyPost_ret (jal Tryz.results211 _ _ w.heap.size 244 _ (0,0) _ rfl (heap_alloc_new w _) Tryz.underlying244 rfl HSZ.out) rfl ⟨rfl,Hb.out⟩
theorem jki {l:List UInt8}{a:Nat}(h:a<l.length):jat ((l.drop a).take 1)=(l.getD a 0).toNat:=by
 rw [List.drop_eq_getElem_cons h,List.take_succ_cons,List.take_zero,jnk,List.getD_eq_getElem?_getD,List.getElem?_eq_getElem h,Option.getD_some]
theorem below_setRow {B g:Nat}{a w:World}(h:Below B a w)(hg:B<=g)(cs:Array Value):Below B a (w.setRow g cs):=⟨h.os,h.tape,h.output,by simpa using h.size,λ k hk=>(setRow_other _ _ _ _ (by omega)).trans (h.block k hk)⟩
theorem jbb (t0 t1 c a m a2:Nat)(A:Option Addr)(l:List UInt8)(w:World)(h:Tk w t0 t1 A 64 c l a)(h1:1<=m)(h8:m<=8)(ha:a+m<=64)(h2:a+m=a2)(k:Int)(hk:k=(m:Int))(x:Nat)(hx:jat ((l.drop a).take m)=x):
  Calls Tryz.prog 266 #[.int .i64 k, .pointer (some ⟨t0,0,none⟩), .pointer (some ⟨t1,0,none⟩)] w λ e w' =>e= .returned (.int .u64 (x:Int))∧Tk w' t0 t1 A 64 c l a2∧Fr (λ b=>b=t1) w w':=by
 subst h2 hk hx;exact jjj t0 t1 64 c a m A l w h (by decide) h1 h8 ha
theorem jbR (l:List UInt8)(a m:Nat)(hl:l.length=64)(ha:a+m<=64):jat ((l.drop a).take m)<256 ^ m:=by
 have:=jb4 ((l.drop a).take m)
 rwa [List.length_take,List.length_drop,hl,Nat.min_eq_left (by omega)] at this
theorem jnn (A:Option Addr)(c:Nat)(l:List UInt8)(hl:l.length=64)(w:World)(h:Sl w 1 A 64 c (cells l))(hN0:Nt w):Calls Tryz.prog 211 #[.slice A 64 c] w λ e w' =>e= .returned (.tuple #[.agg (getS l).cs.toArray, .int .i64 (getE l:Int)])∧Below w.heap.size w w':=by
 have HN:=qH hN0;clear hN0;have hcap:=h.cap;have htop:=h.top;have hzv:=jcn;have hbz:=jgs;obtain⟨w0,hw0⟩:∃w0,w0=w.alloc (.cells (Sh.cs Sh.zero).toArray 244):=⟨_,rfl⟩;have hb0:Below w.heap.size w w0:=by rw [hw0];exact(Below.refl _ _).alloc (Nat.le_refl _) _
 have hz0:w0.heap.size=w.heap.size+1:=by rw [hw0];simp
 have hbr:w0.heap[w.heap.size]? =some (.cells (Sh.cs Sh.zero).toArray 244 (0,0)):=by rw [hw0];exact heap_alloc_new w _
 have HB0:=qH hb0;have HZ0:=qH hz0;have HBR:=qH hbr;have Hw0:=qH hw0;have HS:=qH h;have HL:=qH hl;obtain⟨k0,hx0⟩:∃u:UInt8,jat ((l.drop 0).take 1)=u.toNat:=⟨l.getD 0 0,jki (by omega)⟩;have y0:k0.toNat<256:=k0.toNat_lt;have HX0:=qH hx0;obtain⟨k1,hx1⟩:∃u:UInt8,jat ((l.drop 1).take 1)=u.toNat:=⟨l.getD 1 0,jki (by omega)⟩;have y1:k1.toNat<256:=k1.toNat_lt;have HX1:=qH hx1;obtain⟨x2,hx2⟩:∃x,jat ((l.drop 2).take 2)=x:=⟨_,rfl⟩;have y2:x2<65536:=by rw [<-hx2];exact jbR l 2 2 hl (by decide)
 have HX2:=qH hx2;obtain⟨x3,hx3⟩:∃x,jat ((l.drop 4).take 8)=x:=⟨_,rfl⟩;have y3:x3<18446744073709551616:=by rw [<-hx3];exact jbR l 4 8 hl (by decide)
 have HX3:=qH hx3;obtain⟨x4,hx4⟩:∃x,jat ((l.drop 12).take 2)=x:=⟨_,rfl⟩;have y4:x4<65536:=by rw [<-hx4];exact jbR l 12 2 hl (by decide)
 have HX4:=qH hx4;obtain⟨x5,hx5⟩:∃x,jat ((l.drop 14).take 2)=x:=⟨_,rfl⟩;have y5:x5<65536:=by rw [<-hx5];exact jbR l 14 2 hl (by decide)
 have HX5:=qH hx5;have hset:(((((Sh.zero.cs.set 0 (.int .u8 (k0.toNat:Int))).set 1 (.int .u8 (k1.toNat:Int))).set 2 (.int .u16 (x2:Int))).set 3 (.int .u64 (x3:Int))).set 4 (.int .u16 (x4:Int)))=Sh.cs ⟨k0,k1,x2,x3,x4,Sh.zero.body⟩:=by simp only [Sh.cs,Sh.zero,List.set_cons_zero,List.set_cons_succ]
 have HSET:=qH hset;have HSZ:=qH (jba ⟨k0,k1,x2,x3,x4,Sh.zero.body⟩);have HON:=qH (all_oneCell_toArray (Sh.cs_one ⟨k0,k1,x2,x3,x4,Sh.zero.body⟩));have HSS:=qH (show (Sh.cs Sh.zero).toArray.size=(Sh.cs ⟨k0,k1,x2,x3,x4,Sh.zero.body⟩).toArray.size by rw [List.size_toArray,List.size_toArray,Sh.cs_len,Sh.cs_len]);clear hset;clear hb0 hz0 hbr hw0 hx0 hx1 hx2 hx3 hx4 hx5 h;go_enter Tryz.func211,Tryz.ntmps211;go_wp2_with (rw [<-Hw0.out]);refine(jlo _ _ _ _).mono ?_;rintro e w1 ⟨rfl,hw1⟩;have T1:=qH (show Tk w1 w0.heap.size (w0.heap.size+1) A 64 c l 0 by rw [hw1];exact Tk.new w0 A 64 c l (HS.out.below HB0.out (Nat.le_refl _)));have F1:=qH (show Below w0.heap.size w0 w1 by rw [hw1];exact((Below.refl _ _).alloc (Nat.le_refl _) _).alloc (by simp) _);clear hw1 hl;go_wp2_with fail
 refine(jbb w0.heap.size (w0.heap.size+1) c 0 1 1 A l w1 T1.out (by decide) (by decide) (by decide) rfl _ rfl k0.toNat HX0.out).mono ?_;rintro e w2 ⟨rfl,hT,hF⟩;have T2:=qH hT;have F2:=qH (F1.out.trans (hF.below F1.out.size (λ b hb=>by have h1:b=w0.heap.size+1:=hb;omega)));clear hT hF;go_wp2_with fail;refine(jbb w0.heap.size (w0.heap.size+1) c 1 1 2 A l w2 T2.out (by decide) (by decide) (by decide) rfl _ rfl k1.toNat HX1.out).mono ?_;rintro e w3 ⟨rfl,hT,hF⟩;have T3:=qH hT;have F3:=qH (F2.out.trans (hF.below F2.out.size (λ b hb=>by have h1:b=w0.heap.size+1:=hb;omega)));clear hT hF;go_wp2_with fail;refine(jbb w0.heap.size (w0.heap.size+1) c 2 2 4 A l w3 T3.out (by decide) (by decide) (by decide) rfl _ rfl x2 HX2.out).mono ?_;rintro e w4 ⟨rfl,hT,hF⟩;have T4:=qH hT;have F4:=qH (F3.out.trans (hF.below F3.out.size (λ b hb=>by have h1:b=w0.heap.size+1:=hb;omega)))
 clear hT hF;go_wp2_with fail;refine(jbb w0.heap.size (w0.heap.size+1) c 4 8 12 A l w4 T4.out (by decide) (by decide) (by decide) rfl _ rfl x3 HX3.out).mono ?_;rintro e w5 ⟨rfl,hT,hF⟩;have T5:=qH hT;have F5:=qH (F4.out.trans (hF.below F4.out.size (λ b hb=>by have h1:b=w0.heap.size+1:=hb;omega)));clear hT hF;go_wp2_with fail;refine(jbb w0.heap.size (w0.heap.size+1) c 12 2 14 A l w5 T5.out (by decide) (by decide) (by decide) rfl _ rfl x4 HX4.out).mono ?_;rintro e w6 ⟨rfl,hT,hF⟩;have T6:=qH hT;have F6:=qH (F5.out.trans (hF.below F5.out.size (λ b hb=>by have h1:b=w0.heap.size+1:=hb;omega)));clear hT hF;obtain⟨w7,hw7⟩:∃w7,w7=w6.alloc (.cells (Sh.cs ⟨k0,k1,x2,x3,x4,Sh.zero.body⟩).toArray 244):=⟨_,rfl⟩;have hb7:Below w6.heap.size w6 w7:=by rw [hw7];exact(Below.refl _ _).alloc (Nat.le_refl _) _
 have T7:=qH (T6.out.later hb7);have F7:=qH (F6.out.trans (hb7.mono F6.out.size));have B7:=qH (show ShB w7 w6.heap.size ⟨k0,k1,x2,x3,x4,Sh.zero.body⟩ by rw [hw7];exact ShB.new w6 _);have Hw7:=qH hw7;clear hw7 hb7;go_wp2_with (first|(refine jaP ?_;refine ja6 (o:=⟨none,_,_,_,_,_⟩) rfl 244 (.tmp 6) (.tmp 31) rfl w6 _ (Sh.cs ⟨k0,k1,x2,x3,x4,Sh.zero.body⟩).toArray 244 rfl (congrArg (λ l=>Value.agg (List.toArray l)) HSET.out) HSZ.out HSS.out HON.out ?_;rw [<-Hw7.out]));refine(jbb w0.heap.size (w0.heap.size+1) c 14 2 16 A l w7 T7.out (by decide) (by decide) (by decide) rfl _ rfl x5 HX5.out).mono ?_;rintro e w8 ⟨rfl,hT,hF⟩;have T8:=qH hT;have F8:=qH (F7.out.trans (hF.below F7.out.size (λ b hb=>by have h1:b=w0.heap.size+1:=hb;omega)));have hfr7:=hF;clear hT hF;go_wp2_with fail;obtain⟨X,hX⟩:∃X,X=(l.drop 16).take 44:=⟨_,rfl⟩
 have hne:w6.heap.size≠w0.heap.size+1:=by have:=block_lt T6.out.s1;omega
 have B8:=qH (B7.out.fr hfr7 hne);refine(jnm w0.heap.size (w0.heap.size+1) 64 c 16 A l w8 T8.out (by decide) (by decide)).mono ?_;rintro e w9 ⟨rfl,hT,hF⟩;rw [<-hX];have T9:=qH hT;have F9:=qH (F8.out.trans (hF.below F8.out.size (λ b hb=>by have h1:b=w0.heap.size+1:=hb;omega)));have B9:=qH (B8.out.fr hF hne);obtain⟨w10,hw10⟩:∃w10,w10=w9.setCells w6.heap.size 5 (cells (jaB X)).toArray.toList:=⟨_,rfl⟩;have hsb:=B9.out.setBody X;rw [show (cells (jaB X))=(cells (jaB X)).toArray.toList from rfl,<-hw10] at hsb;have hltA:∀b o,0<64->A=some ⟨b,o,none⟩->b≠w6.heap.size:=λ b o h0 hA=>by
  have h1:=HS.out.lt (by decide) h0 hA;have h2:=HZ0.out;have h3:=F6.out.size;omega
 have T10:=qH (T9.out.fr hsb.2 (by have:=block_lt T6.out.s0;show ¬_=_;omega) (by show ¬_=_;omega) hltA);have F10:=qH (F9.out.trans (hsb.2.below F9.out.size (λ b hb=>by have h1:b=w6.heap.size:=hb;have:=F6.out.size;omega)));have B10:=qH hsb.1;have HNE:=qH hne;have HX:=qH hX;have Hw10:=qH hw10;have e44:(cells (jaB X)).toArray.size=44:=by rw [List.size_toArray,jaa,jaO]
 have HTH:=qH (show w9.there w6.heap.size 5 (cells (jaB X)).toArray.size by rw [e44];exact B9.out.there);have HS44:=qH (show (Tryz.prog.info? 242).map (·.size)=some (cells (jaB X)).toArray.size by rw [List.size_toArray];exact jc0 X);have HO44:=qH (all_oneCell_toArray (cells_one (jaB X)));clear hT hF hsb hw10 hX hne hfr7 hltA e44;go_wp2_with (first|(refine jaP ?_;refine wpList_store_mid (op:=⟨none,_,_,_,_,_⟩) rfl 242 (.tmp 36) (.tmp 35) rfl w6.heap.size 5 (cells (jaB X)).toArray rfl rfl HTH.out HS44.out HO44.out ?_;rw [<-Hw10.out]));have hsh:jaC l=⟨k0,k1,x2,x3,x4,X⟩:=by
  have e0:l.getD 0 0=k0:=UInt8.toNat_inj.1 ((jki (by rw [HL.out];decide)).symm.trans HX0.out);have e1:l.getD 1 0=k1:=UInt8.toNat_inj.1 ((jki (by rw [HL.out];decide)).symm.trans HX1.out);rw [jaC,e0,e1,HX2.out,HX3.out,HX4.out,<-HX.out]
 have HSH:=qH hsh;clear hsh;obtain⟨x6,hx6⟩:∃x,jat ((l.drop 60).take 4)=x:=⟨_,rfl⟩;have y6:x6<4294967296:=by rw [<-hx6];exact jbR l 60 4 HL.out (by decide)
 have HX6:=qH hx6;obtain⟨q,hq⟩:∃q,q=sumOf (l.take 60):=⟨_,rfl⟩;have yq:q<4294967296:=by rw [hq];exact jgW _
 have HQ:=qH hq;have HD:=qH (show Below w10.heap.size w10 w10.drew from Below.drew (Below.refl _ _));have hwq:IntKind.u64.wrap (q:Int)=(q:Int):=by rw [IntKind.wrap_u64];omega
 have hc60:(60:Int)<=(c:Int):=by omega
 have HNT:=qH (HN.out.keep ((HB0.out.trans (F10.out.mono (by have:=HZ0.out;omega)))));clear hx6 hq;have HZS:=qH (jba Sh.zero);have HZO:=qH (all_oneCell_toArray Sh.zero.cs_one)
 by_cases hsum:x6=q
 ·have hd:((x6:Int) !=(q:Int))=false:=by rw [hsum];simp
  have hs':jat ((l.drop 60).take 4)=sumOf (l.take 60):=by rw [HX6.out,<-HQ.out];exact hsum
  have Hs:=qH hs';clear hsum hs';refine wp_region_held_drew (S:=λ w' =>Fr (λ b=>b=w0.heap.size+1) w10.drew w') (by kernel_rfl) (Fr.refl _ _) (λ hHeld=> ?_);clear hHeld;refine tA 0 (some 37) rfl (Fr.refl _ _) ?_;refine tA 2 (some 39) rfl (Fr.refl _ _) ?_;refine tA 3 (some 40) rfl (Fr.refl _ _) ?_;refine rW 1 (some 38) rfl λ K hK=> ?_
  go_simp;refine(jbb w0.heap.size (w0.heap.size+1) c 60 4 64 A l w10.drew (T10.out.later HD.out) (by decide) (by decide) (by decide) rfl _ rfl x6 HX6.out).mono ?_;rintro e w11 ⟨rfl,hT,hF⟩;have hfr:Fr (λ b=>b=w0.heap.size+1) w10.drew w11:=hF;have T11:=qH hT;have F11:=qH ((F10.out.trans (HD.out.mono F10.out.size)).trans (hF.below F10.out.size (λ b hb=>by have h1:b=w0.heap.size+1:=hb;omega)));have B11:=qH ((B10.out.later HD.out).fr hF HNE.out);have NT11:=qH (HN.out.keep (HB0.out.trans (F11.out.mono (by have:=HZ0.out;omega))));clear hT hF;go_wp2_with fail;refine hK.out _ _ hfr (λ hHeld=> ?_);clear hK K hHeld
  try simp only [Act.put,sA,sB,sC]
  refine jac (S':=λ w' =>Fr (λ b=>b=w0.heap.size+1) w11 w') (λ w' h=>hfr.trans h) ?_;clear hfr;refine rW 4 (some 41) rfl λ K hK=> ?_
  go_simp;have hsl:=T11.out.sl.sub1 0 60 c (by decide) (by decide) (by omega) htop;rw [List.drop_zero,show A.map (·.add 0)=A by cases A<;>simp [Addr.add]] at hsl;refine(jjq A 60 c (l.take 60) w11 hsl NT11.out).mono ?_;rintro e w12 ⟨rfl,hb12⟩;have hfr:=Fr.of_below (S:=λ b=>b=w0.heap.size+1) hb12;have F12:=qH (F11.out.trans (hb12.mono F11.out.size));have B12:=qH (B11.out.later hb12);rw [show (more 0 (l.take 60)).toNat=q from HQ.out.symm];clear hb12 hsl;go_wp2_with fail;refine hK.out _ _ hfr (λ hHeld=> ?_);clear hK K hHeld
  try simp only [Act.put,sA,sB,sC]
  refine jac (S':=λ w' =>Fr (λ b=>b=w0.heap.size+1) w12 w') (λ w' h=>hfr.trans h) ?_;clear hfr;refine tA 5 (some 42) rfl (Fr.refl _ _) ?_;refine tA 6 (some 43) rfl (Fr.refl _ _) ?_;refine tD ?_;have BRX:=qH ((F12.out.block _ (by have:=HZ0.out;omega)).trans HBR.out);have BLX:=qH (HB0.out.trans (F12.out.mono (by have:=HZ0.out;omega)));have ck:=B12.out.k;go_wp2_with fail;refine(jhV k0 w12).mono ?_;rintro e w13 ⟨rfl,hw13⟩;obtain rfl:w12=w13:=hw13;have hkn:(jaC l).kn=(decide (1<=k0.toNat) && decide (k0.toNat<=4)):=by rw [HSH.out];rfl
  clear ck
  cases hb:(decide (1<=k0.toNat) && decide (k0.toNat<=4))
  ·rw [hb] at hkn
   have HE:=qH (jfA HL.out Hs.out (.inl hkn));have HG:=qH (jeS (l:=l) (by rw [HE.out];decide));clear hkn hb;go_wp2_with (refine jaP ?_;refine wpList_store_row (o:=⟨none,_,_,_,_,_⟩) rfl 244 (.tmp 2) (.tmp 53) rfl w.heap.size (Sh.cs Sh.zero).toArray rfl rfl 244 _ BRX.out HZS.out rfl HZO.out ?_);refine bodyPost_ret (jal Tryz.results211 _ _ w.heap.size 244 _ (0,0) _ rfl (setRow_heap _ _ _ _ _ _ BRX.out) Tryz.underlying244 rfl HZS.out) rfl ⟨by rw [HE.out,HG.out];rfl,below_setRow BLX.out (Nat.le_refl _) _⟩
  ·rw [hb] at hkn
   by_cases h5:x5=0
   ·have HE:=qH (jhU HL.out Hs.out hkn (by rw [HX5.out];exact h5))
    have HG:=qH ((jcZ HE.out).trans HSH.out);have HFS:=qH (jba ⟨k0,k1,x2,x3,x4,X⟩);have HFO:=qH (all_oneCell_toArray (Sh.cs_one ⟨k0,k1,x2,x3,x4,X⟩));have HFF:=qH (show (Sh.cs Sh.zero).toArray.size=(Sh.cs ⟨k0,k1,x2,x3,x4,X⟩).toArray.size by rw [List.size_toArray,List.size_toArray,Sh.cs_len,Sh.cs_len]);have h5i:((x5:Int) !=0)=false:=by rw [h5];rfl
    clear hkn hb h5;go_wp2_with (first
     |(refine jaJ (d:=54) ?_;refine wpList_load_row (o:=⟨some 54,_,_,_,_,_⟩) rfl 244 (.tmp 6) rfl w6.heap.size rfl 244 (Sh.cs ⟨k0,k1,x2,x3,x4,X⟩).toArray (0,0) _ B12.out Tryz.underlying244 rfl HFS.out ?_)
     |(refine jaP ?_;refine wpList_store_row (o:=⟨none,_,_,_,_,_⟩) rfl 244 (.tmp 2) (.tmp 54) rfl w.heap.size (Sh.cs ⟨k0,k1,x2,x3,x4,X⟩).toArray rfl rfl 244 _ BRX.out HFS.out HFF.out HFO.out ?_))
    refine bodyPost_ret (jal Tryz.results211 _ _ w.heap.size 244 _ (0,0) _ rfl (setRow_heap _ _ _ _ _ _ BRX.out) Tryz.underlying244 rfl HFS.out) rfl ⟨by rw [HE.out,HG.out];rfl,below_setRow BLX.out (Nat.le_refl _) _⟩
   ·have HE:=qH (jfA HL.out Hs.out (.inr (by rw [HX5.out];exact h5)))
    have HG:=qH (jeS (l:=l) (by rw [HE.out];decide));have h5i:((x5:Int) !=0)=true:=by rw [bne_iff_ne];omega
    clear hkn hb h5;go_wp2_with (refine jaP ?_;refine wpList_store_row (o:=⟨none,_,_,_,_,_⟩) rfl 244 (.tmp 2) (.tmp 53) rfl w.heap.size (Sh.cs Sh.zero).toArray rfl rfl 244 _ BRX.out HZS.out rfl HZO.out ?_);refine bodyPost_ret (jal Tryz.results211 _ _ w.heap.size 244 _ (0,0) _ rfl (setRow_heap _ _ _ _ _ _ BRX.out) Tryz.underlying244 rfl HZS.out) rfl ⟨by rw [HE.out,HG.out];rfl,below_setRow BLX.out (Nat.le_refl _) _⟩
 ·have hd:((x6:Int) !=(q:Int))=true:=by rw [bne_iff_ne];omega
  have HE:=qH (jkh HL.out (by rw [HX6.out,<-HQ.out];exact hsum));have HG:=qH (jeS (l:=l) (by rw [HE.out];decide));clear hsum;refine wp_region_held_drew (S:=λ w' =>Fr (λ b=>b=w0.heap.size+1) w10.drew w') (by kernel_rfl) (Fr.refl _ _) (λ hHeld=> ?_);clear hHeld;refine tA 0 (some 37) rfl (Fr.refl _ _) ?_;refine tA 2 (some 39) rfl (Fr.refl _ _) ?_;refine tA 3 (some 40) rfl (Fr.refl _ _) ?_;refine rW 1 (some 38) rfl λ K hK=> ?_
  go_simp;refine(jbb w0.heap.size (w0.heap.size+1) c 60 4 64 A l w10.drew (T10.out.later HD.out) (by decide) (by decide) (by decide) rfl _ rfl x6 HX6.out).mono ?_;rintro e w11 ⟨rfl,hT,hF⟩;have hfr:Fr (λ b=>b=w0.heap.size+1) w10.drew w11:=hF;have T11:=qH hT;have F11:=qH ((F10.out.trans (HD.out.mono F10.out.size)).trans (hF.below F10.out.size (λ b hb=>by have h1:b=w0.heap.size+1:=hb;omega)));have B11:=qH ((B10.out.later HD.out).fr hF HNE.out);have NT11:=qH (HN.out.keep (HB0.out.trans (F11.out.mono (by have:=HZ0.out;omega))));clear hT hF;go_wp2_with fail;refine hK.out _ _ hfr (λ hHeld=> ?_);clear hK K hHeld
  try simp only [Act.put,sA,sB,sC]
  refine jac (S':=λ w' =>Fr (λ b=>b=w0.heap.size+1) w11 w') (λ w' h=>hfr.trans h) ?_;clear hfr;refine rW 4 (some 41) rfl λ K hK=> ?_
  go_simp;have hsl:=T11.out.sl.sub1 0 60 c (by decide) (by decide) (by omega) htop;rw [List.drop_zero,show A.map (·.add 0)=A by cases A<;>simp [Addr.add]] at hsl;refine(jjq A 60 c (l.take 60) w11 hsl NT11.out).mono ?_;rintro e w12 ⟨rfl,hb12⟩;have hfr:=Fr.of_below (S:=λ b=>b=w0.heap.size+1) hb12;have F12:=qH (F11.out.trans (hb12.mono F11.out.size));have B12:=qH (B11.out.later hb12);rw [show (more 0 (l.take 60)).toNat=q from HQ.out.symm];clear hb12 hsl;go_wp2_with fail;refine hK.out _ _ hfr (λ hHeld=> ?_);clear hK K hHeld
  try simp only [Act.put,sA,sB,sC]
  refine jac (S':=λ w' =>Fr (λ b=>b=w0.heap.size+1) w12 w') (λ w' h=>hfr.trans h) ?_;clear hfr;refine tA 5 (some 42) rfl (Fr.refl _ _) ?_;refine tA 6 (some 43) rfl (Fr.refl _ _) ?_;refine tD ?_;have BRX:=qH ((F12.out.block _ (by have:=HZ0.out;omega)).trans HBR.out);have BLX:=qH (HB0.out.trans (F12.out.mono (by have:=HZ0.out;omega)));go_wp2_with (refine jaP ?_;refine wpList_store_row (o:=⟨none,_,_,_,_,_⟩) rfl 244 (.tmp 2) (.tmp 44) rfl w.heap.size (Sh.cs Sh.zero).toArray rfl rfl 244 _ BRX.out HZS.out rfl HZO.out ?_);refine bodyPost_ret (jal Tryz.results211 _ _ w.heap.size 244 _ (0,0) _ rfl (setRow_heap _ _ _ _ _ _ BRX.out) Tryz.underlying244 rfl HZS.out) rfl ⟨by rw [HE.out,HG.out];rfl,below_setRow BLX.out (Nat.le_refl _) _⟩
theorem jpp (A:Option Addr)(n c:Nat)(l:List UInt8)(w:World)(h:Sl w 1 A n c (cells l))(hN:Nt w):Calls Tryz.prog 211 #[.slice A n c] w λ e w' =>e= .returned (.tuple #[.agg (getS l).cs.toArray, .int .i64 (getE l:Int)])∧Below w.heap.size w w':=by
 have hl:l.length=n:=by have:=h.len;rw [jaa,Nat.mul_one] at this;exact this
 by_cases hn:n=64
 ·subst hn
  exact jnn A c l hl w h hN
 ·have hE:getE l=2:=jeR (by omega)
  rw [hE,jeS (by rw [hE];decide)];exact jlp A n c hn w
end
end Go.Proofs.YtmhejbihdghhaaaGreatDoor

/-
  Words of our own on slices in memory, over any program: a slice value that reads as a list of cells ('Sl'), one to which may be appended without touching older 
-/
import Derived.WalkKit
import Derived.WalkSpells
import Derived.WalkLawsBesides
import Derived.Deep.AppendSrc
import Derived.Deep.Upon
import Derived.Deep.Draws
import Derived.Laws.BytesArg
import Derived.Lib.Hide
import Derived.Lib.ConvBytes
import Derived.Test.YtmhejbihdghhaaaGreatDoorProg
import Derived.OwnWalk
import Derived.OpenShut
import Derived.Laws.BitsAllLaws
import Derived.Deep.RegionHeld
import Derived.Maps.OwnOps
import Derived.Maps.Views
import Derived.Deep.QuietTactic
import Derived.BigQuiet
namespace Go.Proofs.YtmhejbihdghhaaaGreatDoor
set_option linter.unusedVariables false
open Go.RowKit
open Go.RowKit
open Go.RowKit
open Go.RowKit
open Go.RowKit
open Go.RowKit Go.Proofs
open Go.RowKit Go.Proofs
open Go.RowKit
open Go.RowKit
open Go.RowKit Go.Proofs Go.Maps
open Go.RowKit Go.Proofs
section
def bv (u:UInt8):Value:= .int .u8 (u.toNat:Int)
def cells (l:List UInt8):List Value:=l.map bv
theorem jaa (l:List UInt8):(cells l).length=l.length:=by simp [cells]
theorem jai (l k:List UInt8):cells (l++k)=cells l++cells k:=by simp [cells]
theorem jc7 (l:List UInt8)(k:Nat):cells (l.take k)=(cells l).take k:=by simp [cells,List.map_take]
theorem jc8 (l:List UInt8)(k:Nat):cells (l.drop k)=(cells l).drop k:=by simp [cells,List.map_drop]
theorem jaE (l:List UInt8)(j:Nat)(h:j<l.length):(cells l)[j]? =some (bv l[j]):=by simp [cells,h]
theorem cells_one (l:List UInt8):∀u∈cells l,u.oneCell' =true:=by
 intro u hu;obtain⟨_,_,rfl⟩:=List.mem_map.1 hu
 rfl
structure Sl (w:World)(size:Nat)(A:Option Addr)(n c:Nat)(xs:List Value):Prop where
 len:xs.length=n*size
 cap:n<=c
 top:c<=maxLen
 cell:∀j u,xs[j]? =some u->∃b o,A=some ⟨b,o,none⟩∧w.cell? ⟨b,o+j,none⟩=some u
section
variable {w w':World}{size n c:Nat}{A:Option Addr}{xs:List Value}
theorem Sl.keep (h:Sl w size A n c xs)(hk:∀p:Addr,p.block<w.heap.size->w'.cell? p=w.cell? p):Sl w' size A n c xs:=
 ⟨h.len,h.cap,h.top,λ j u hu=>by
  obtain⟨b,o,e,hc⟩:=h.cell j u hu;exact⟨b,o,e,(hk _ (World.block_lt_of_cell? w _ hc)).trans hc⟩⟩
theorem Sl.below (h:Sl w size A n c xs){B:Nat}(hb:Below B w w')(hB:w.heap.size<=B):Sl w' size A n c xs:=h.keep λ _ hp=>hb.cell (Nat.lt_of_lt_of_le hp hB)
theorem Sl.drew (h:Sl w size A n c xs):Sl w.drew size A n c xs:=⟨h.len,h.cap,h.top,h.cell⟩
theorem Sl.drewN (h:Sl w size A n c xs)(k:Nat):Sl (w.drewN k) size A n c xs:=⟨h.len,h.cap,h.top,h.cell⟩
theorem Sl.alloc (h:Sl w size A n c xs)(o:Obj):Sl (w.alloc o) size A n c xs:=h.keep λ p hp=>World.cell?_alloc_lt w o p hp
theorem Sl.nil (w:World)(size:Nat)(c:Nat)(h:c<=maxLen):Sl w size none 0 c []:=⟨by simp,Nat.zero_le _,h,λ j u hu=>by simp at hu⟩
theorem Sl.empty (w:World)(size:Nat)(A:Option Addr)(c:Nat)(h:c<=maxLen):Sl w size A 0 c []:=⟨by simp,Nat.zero_le _,h,λ j u hu=>by simp at hu⟩
theorem Sl.made (w:World)(cs:Array Value)(t:TypeId)(size n:Nat)(hs:cs.size=n*size)(h:n<=maxLen):Sl (w.alloc (.cells cs t)) size (some ⟨w.heap.size,0,none⟩) n n cs.toList:=
 ⟨by simpa using hs,Nat.le_refl _,h,λ j u hu=>⟨w.heap.size,0,rfl,by rw [cell_of_row _ _ _ cs t (0,0) (heap_alloc_new w _),Nat.zero_add];simpa using hu⟩⟩
theorem Sl.one (w:World)(t:TypeId)(u:UInt8)(z:Int)(h:z=(u.toNat:Int)):Sl (w.alloc (.cells #[.int .u8 z] t)) 1 (some ⟨w.heap.size,0,none⟩) 1 1 (cells [u]):=by
 subst h;exact Sl.made w #[.int .u8 (u.toNat:Int)] t 1 1 rfl (by decide)
theorem Sl.lim (h:Sl w size A n c xs):n<=maxLen:=Nat.le_trans h.cap h.top
theorem Sl.recap (h:Sl w size A n c xs){c':Nat}(h1:n<=c')(h2:c' <=maxLen):Sl w size A n c' xs:=⟨h.len,h1,h2,h.cell⟩
theorem Sl.at_ (h:Sl w 1 A n c xs){k:Nat}(hk:k<n):∃b o,A=some ⟨b,o,none⟩∧∀j u,xs[j]? =some u->w.cell? ⟨b,o+j,none⟩=some u:=by
 have h0:0<xs.length:=by have:=h.len;omega
 obtain⟨b,o,rfl,_⟩:=h.cell 0 xs[0] (List.getElem?_eq_getElem h0);refine⟨b,o,rfl,λ j u hu=> ?_⟩;obtain⟨b',o',e,hc⟩:=h.cell j u hu;injection e with e
 injection e with e1 e2
 subst e1;subst e2;exact hc
theorem Sl.src {P:Program}{tx e':TypeId}(hk:P.underlying tx=some (.slice e'))(h:Sl w size A n c xs)(hsz:0<size)(h1:∀u∈xs,u.oneCell' =true):Src P size tx (.slice A n c) n xs w:=by
 rcases A with _|ad
 ·have hx:xs= []:=by
   rcases xs with _|⟨u,r⟩
   ·rfl
   ·obtain⟨_,_,e,_⟩:=h.cell 0 u rfl
    cases e
  subst hx;have hn:n=0:=by
   rcases Nat.mul_eq_zero.1 (by simpa using h.len.symm) with h0|h0<;>omega
  subst hn;exact Src.ofNil w hk c
 ·refine Src.ofSlice w hk ad n c xs h.len (λ j u hu=> ?_) h1
  obtain⟨b,o,e,hc⟩:=h.cell j u hu;injection e with e
  subst e;rw [show (⟨b,o,none⟩:Addr).add j=⟨b,o+j,none⟩ from by unfold Addr.add;split<;>simp_all];exact hc
theorem Sl.firstCells {P:Program}(h:Sl w size A n c xs):(Builtin.firstCells size n (.slice A n c)).run P w= .ok xs.toArray w:=by
 rcases A with _|ad
 ·have hx:xs= []:=by
   rcases xs with _|⟨u,r⟩
   ·rfl
   ·obtain⟨_,_,e,_⟩:=h.cell 0 u rfl
    cases e
  subst hx;exact run_firstCells_none w size n n c
 ·refine run_firstCells_some w size n ad n c xs h.len (λ j u hu=> ?_)
  obtain⟨b,o,e,hc⟩:=h.cell j u hu;injection e with e
  subst e;rw [show (⟨b,o,none⟩:Addr).add j=⟨b,o+j,none⟩ from by unfold Addr.add;split<;>simp_all];exact hc
end
structure Own (w:World)(B:Nat)(e:TypeId)(size:Nat)(A:Option Addr)(n c:Nat)(xs:List Value):Prop where
 sl:Sl w size A n c xs
 own:n=c∨w.ownsRow B e size (.slice A n c) n xs
section
variable {w w':World}{B size n c:Nat}{e:TypeId}{A:Option Addr}{xs:List Value}
theorem Own.full (h:Sl w size A n n xs):Own w B e size A n n xs:=⟨h, .inl rfl⟩
theorem ownsRow_below {v:Value}{m:Nat}(h:w.ownsRow B e size v m xs)(hb:Below w.heap.size w w'):w'.ownsRow B e size v m xs:=by
 refine h.kept (row:=none) ⟨hb.os,hb.tape,hb.output,hb.size,λ k hk _=>hb.block k hk⟩ ?_
 cases hv:v.ownBlock
 ·exact .inl rfl
 ·exact .inr (by simp)
theorem Own.below (h:Own w B e size A n c xs)(hb:Below w.heap.size w w'):Own w' B e size A n c xs:=
 ⟨h.sl.below hb (Nat.le_refl _),h.own.imp id λ k=>ownsRow_below k hb⟩
theorem Own.alloc (h:Own w B e size A n c xs)(o:Obj):Own (w.alloc o) B e size A n c xs:=h.below ((Below.refl _ _).alloc (Nat.le_refl _) o)
theorem Own.lower (h:Own w B e size A n c xs){B':Nat}(hB:B' <=B):Own w B' e size A n c xs:=⟨h.sl,h.own.imp id λ k=>k.mono hB⟩
theorem ja8 (P:Program){g o:Nat}{cur:Array Value}{vs:List Value}(hg:w.heap[g]? =some (.cells cur e (0,0)))(hl:o+vs.length<=cur.size)(h1:∀v∈vs,v.oneCell' =true):
  w.setCells g o vs=w.setRow g (cur.toList.take o++vs++cur.toList.drop (o+vs.length)).toArray:=by
 have a:=run_storeCells_at P g o e vs 0 cur w hg (by simpa using hl) h1;have b:=run_storeCells_cells (P:=P) g o vs 0 w (λ j hj=>by simp [World.cell?,hg];omega) (λ j _=>by simp [World.frozen?,hg]) h1;simp only [Nat.add_zero] at a b;rw [a] at b;injection b with _ b
 exact b.symm
theorem jaK {P:Program}(t tx ty:TypeId)(i:TypeInfo)(z:Value)(bytes:Nat)(ht:P.underlying t=some (.slice e))(hi:P.info? e=some i)(hz:i.zero=some z)
  (hsize:i.size=size)(hby:i.bytes=bytes)(hzs:z.cells.size=size)(hsz:0<size)(h:Own w B e size A n c xs)(hB:B<=w.heap.size)
  (x:Value)(m:Nat)(ys:List Value)(hs:Src P size tx x m ys w)(h63:n+m<=maxLen)(hbytes:(n+m)*bytes<=140737488355328):
  ∃A' c' w',(Builtin.append_ #[t,tx] ty #[.slice A n c,x]).run P w= .ok (.slice A' (n+m) c') w' ∧Own w' B e size A' (n+m) c' (xs++ys)∧Below B w w' ∧(0<m->w'.ownsRow B e size (.slice A' (n+m) c') (n+m) (xs++ys)):=by
 subst hsize;subst hby
 by_cases hm:m=0
 ·subst hm
  have hy:ys= []:=List.eq_nil_of_length_eq_zero (by simpa using hs.newsLen);subst hy;exact⟨A,c,w,run_append_nothing w t tx ty e i ht hi A n c h.sl.cap x hs,by simpa using h,Below.refl _ _,λ h=>absurd h (by omega)⟩
 by_cases hroom:n+m<=c
 ·rcases h.own with rfl|ho
  ·omega
  obtain⟨hl,hv⟩:=ho
  rcases hv with ⟨hv,_⟩|⟨g,cap,cur,hv,hbg,hg,hnc,hcm,hcs,htake⟩
  ·injection hv with _ h1 h2
   omega
  injection hv with hA _ hc
  subst hA;subst hc;have hfit:n*i.size+ys.length<=cur.size:=by rw [hs.newsLen,hcs,<-Nat.add_mul];exact Nat.mul_le_mul_right _ hroom
  have hr:=run_append_room_src (P:=P) w t tx ty e i ht hi g 0 n c x m ys hs hroom (λ j hj=>by simp [World.cell?,hg];omega) (λ j hj=>by simp [World.frozen?,hg]);rw [Nat.zero_add,ja8 P hg hfit hs.one] at hr;have hlen:(xs++ys).length=(n+m)*i.size:=by rw [List.length_append,hl,hs.newsLen,Nat.add_mul]
  have hown:(w.setRow g (cur.toList.take (n*i.size)++ys++cur.toList.drop (n*i.size+ys.length)).toArray).ownsRow B e i.size (.slice (some ⟨g,0,none⟩) (n+m) c) (n+m) (xs++ys):=by
   refine⟨hlen, .inr ⟨g,c,_,rfl,hbg,setRow_heap w g cur _ e _ hg,hroom,hcm, ?_, ?_⟩⟩
   ·simp only [List.size_toArray,List.length_append,List.length_take,List.length_drop,Array.length_toList]
    omega
   ·rw [htake,<-hlen]
    exact List.take_left
  refine⟨some ⟨g,0,none⟩,c,_,hr,⟨⟨hlen,hroom,hcm,λ j u hu=>⟨g,0,rfl, ?_⟩⟩, .inr hown⟩,⟨rfl,rfl,rfl,by simp,λ k hk=>setRow_other w g k _ (by omega)⟩,λ _=>hown⟩;have:=hown.cells (g:=g) rfl j u hu
  rwa [show (⟨g,0,none⟩:Addr).add j=⟨g,0+j,none⟩ from by unfold Addr.add;split<;>simp_all] at this
 ·have hc:c<n+m:=by omega
  have hr:=run_append_grow_src (P:=P) w t tx ty e i z ht hi hz A n c xs (h.sl.drew.firstCells) x m ys hs hc (by unfold maxLen at h63;omega) (growslice_fits hc hbytes);have hge:=grownCap_ge w (n+m) c e;have hcm:grownCap w (n+m) c e<=maxLen:=grownCap_le_maxLen w (n+m) c e h63;have hlen:(xs++ys).length=(n+m)*i.size:=by rw [List.length_append,h.sl.len,hs.newsLen,Nat.add_mul]
  have hown:(w.drew.alloc (.cells ((xs++ys).toArray++Builtin.zeroCells z.cells (grownCap w (n+m) c e-(n+m))) e)).ownsRow B e i.size
    (.slice (some ⟨w.heap.size,0,none⟩) (n+m) (grownCap w (n+m) c e)) (n+m) (xs++ys):=by
   refine⟨hlen, .inr ⟨w.heap.size,_,_,rfl,hB,heap_alloc_new w.drew _,hge,hcm, ?_, ?_⟩⟩
   ·simp only [Array.size_append,List.size_toArray,size_zeroCells,hzs,hlen,<-Nat.add_mul]
    congr 1
    omega
   ·simp only [Array.toList_append]
    rw [<-hlen];exact List.take_left
  refine⟨_,_,_,hr,⟨⟨hlen,hge,hcm,λ j u hu=>⟨w.heap.size,0,rfl, ?_⟩⟩, .inr hown⟩,(Below.drew (Below.refl _ _)).alloc hB _,λ _=>hown⟩;have:=hown.cells (g:=w.heap.size) rfl j u hu
  rwa [show (⟨w.heap.size,0,none⟩:Addr).add j=⟨w.heap.size,0+j,none⟩ from by unfold Addr.add;split<;>simp_all] at this
theorem jf1 {P:Program}(t tx ty:TypeId)(i:TypeInfo)(z:Value)(bytes:Nat)(ht:P.underlying t=some (.slice e))(hi:P.info? e=some i)(hz:i.zero=some z)
  (hsize:i.size=size)(hby:i.bytes=bytes)(hzs:z.cells.size=size)(hsz:0<size)(h:Own w B e size A n c xs)(hB:B<=w.heap.size)
  (x:Value)(m:Nat)(ys:List Value)(hs:Src P size tx x m ys w)(h63:n+m<=maxLen)(hbytes:(n+m)*bytes<=140737488355328):
  ∃A' c' w',(Builtin.append_ #[t,tx] ty #[.slice A n c,x]).run P w= .ok (.slice A' (n+m) c') w' ∧Own w' B e size A' (n+m) c' (xs++ys)∧Below B w w':=by
 obtain⟨A',c',w',h1,h2,h3,_⟩:=jaK t tx ty i z bytes ht hi hz hsize hby hzs hsz h hB x m ys hs h63 hbytes;exact⟨A',c',w',h1,h2,h3⟩
theorem jdz {P:Program}{o:Oper}{a:Act}{K:Act->World->Prop}{Q:Exit->Act->World->Prop}(s x:Operand)(t tx:TypeId)
  (ho:o.op= .call {callee:= .builtin .append,args:= #[s,x],argTypes:= #[t,tx]})
  (i:TypeInfo)(z:Value)(bytes:Nat)(ht:P.underlying t=some (.slice e))(hi:P.info? e=some i)(hz:i.zero=some z)
  (hsize:i.size=size)(hby:i.bytes=bytes)(hzs:z.cells.size=size)(hsz:0<size)(hv:a.eval s= .slice A n c)(h:Own w B e size A n c xs)(hB:B<=w.heap.size)
  (m:Nat)(ys:List Value)(xv:Value)(hx:a.eval x=xv)(hs:Src P size tx xv m ys w)(h63:n+m<=maxLen)(hbytes:(n+m)*bytes<=140737488355328)
  (hk:∀A' c' w',Own w' B e size A' (n+m) c' (xs++ys)->Below B w w' ->K (a.put o.dst (.slice A' (n+m) c')) w'):o.wp P a w K Q:=by
 obtain⟨A',c',w',hr,h2,h3⟩:=jf1 (P:=P) t tx o.type i z bytes ht hi hz hsize hby hzs hsz h hB xv m ys hs h63 hbytes;unfold Oper.wp execOp;simp only [ho,resolve,invoke,builtin,Sem.run_bind,Sem.run_pure,Result.andThen_ok,List.map_toArray,List.map_cons,List.map_nil,hv,hx,hr];exact hk A' c' w' h2 h3
theorem jce {P:Program}{ops:Array Oper}{rest:List Oper}{o:Oper}{a:Act}{Q:Exit->Act->World->Prop}(hgd:o.guard=none)(s x:Operand)(t tx:TypeId)
  (ho:o.op= .call {callee:= .builtin .append,args:= #[s,x],argTypes:= #[t,tx]})
  (i:TypeInfo)(z:Value)(bytes:Nat)(ht:P.underlying t=some (.slice e))(hi:P.info? e=some i)(hz:i.zero=some z)
  (hsize:i.size=size)(hby:i.bytes=bytes)(hzs:z.cells.size=size)(hsz:0<size)(hv:a.eval s= .slice A n c)(h:Own w B e size A n c xs)(hB:B<=w.heap.size)
  (m:Nat)(ys:List Value)(xv:Value)(hx:a.eval x=xv)(hs:Src P size tx xv m ys w)(h63:n+m<=maxLen)(hbytes:(n+m)*bytes<=140737488355328)
  (hk:∀A' c' w',Own w' B e size A' (n+m) c' (xs++ys)->Below B w w' ->wpList P ops Q rest (a.put o.dst (.slice A' (n+m) c')) w'):wpList P ops Q (o::rest) a w:=
 wpList_plain hgd λ _ hK=>jdz s x t tx ho i z bytes ht hi hz hsize hby hzs hsz hv h hB m ys xv hx hs h63 hbytes λ A' c' w' h2 h3=>hK _ _ (hk A' c' w' h2 h3)
theorem jb8 {P:Program}{o:Oper}{a:Act}{K:Act->World->Prop}{Q:Exit->Act->World->Prop}(s x:Operand)(t tx:TypeId)
  (ho:o.op= .call {callee:= .builtin .append,args:= #[s,x],argTypes:= #[t,tx]})
  (i:TypeInfo)(z:Value)(bytes:Nat)(ht:P.underlying t=some (.slice e))(hi:P.info? e=some i)(hz:i.zero=some z)
  (hsize:i.size=size)(hby:i.bytes=bytes)(hzs:z.cells.size=size)(hsz:0<size)(hv:a.eval s= .slice A n c)(h:Own w B e size A n c xs)(hB:B<=w.heap.size)
  (m:Nat)(ys:List Value)(xv:Value)(hx:a.eval x=xv)(hs:Src P size tx xv m ys w)(h63:n+m<=maxLen)(hbytes:(n+m)*bytes<=140737488355328)
  (hk:∀A' c' w',Own w' B e size A' (n+m) c' (xs++ys)->Below B w w' ->(0<m->w'.ownsRow B e size (.slice A' (n+m) c') (n+m) (xs++ys))->K (a.put o.dst (.slice A' (n+m) c')) w'):o.wp P a w K Q:=by
 obtain⟨A',c',w',hr,h2,h3,h4⟩:=jaK (P:=P) t tx o.type i z bytes ht hi hz hsize hby hzs hsz h hB xv m ys hs h63 hbytes;unfold Oper.wp execOp;simp only [ho,resolve,invoke,builtin,Sem.run_bind,Sem.run_pure,Result.andThen_ok,List.map_toArray,List.map_cons,List.map_nil,hv,hx,hr];exact hk A' c' w' h2 h3 h4
theorem jbX {P:Program}{ops:Array Oper}{rest:List Oper}{o:Oper}{a:Act}{Q:Exit->Act->World->Prop}(hgd:o.guard=none)(s x:Operand)(t tx:TypeId)
  (ho:o.op= .call {callee:= .builtin .append,args:= #[s,x],argTypes:= #[t,tx]})
  (i:TypeInfo)(z:Value)(bytes:Nat)(ht:P.underlying t=some (.slice e))(hi:P.info? e=some i)(hz:i.zero=some z)
  (hsize:i.size=size)(hby:i.bytes=bytes)(hzs:z.cells.size=size)(hsz:0<size)(hv:a.eval s= .slice A n c)(h:Own w B e size A n c xs)(hB:B<=w.heap.size)
  (m:Nat)(ys:List Value)(xv:Value)(hx:a.eval x=xv)(hs:Src P size tx xv m ys w)(h63:n+m<=maxLen)(hbytes:(n+m)*bytes<=140737488355328)
  (hk:∀A' c' w',Own w' B e size A' (n+m) c' (xs++ys)->Below B w w' ->(0<m->w'.ownsRow B e size (.slice A' (n+m) c') (n+m) (xs++ys))->wpList P ops Q rest (a.put o.dst (.slice A' (n+m) c')) w'):wpList P ops Q (o::rest) a w:=
 wpList_plain hgd λ _ hK=>jb8 s x t tx ho i z bytes ht hi hz hsize hby hzs hsz hv h hB m ys xv hx hs h63 hbytes λ A' c' w' h2 h3 h4=>hK _ _ (hk A' c' w' h2 h3 h4)
end
def Mine (w:World)(B:Nat)(e:TypeId)(A:Option Addr)(n:Nat)(xs:List Value):Prop:=
 0<n->∃g cur,A=some ⟨g,0,none⟩∧B<=g∧w.heap[g]? =some (.cells cur e (0,0))∧n<=cur.size∧cur.toList.take n=xs
theorem Mine.of_own {w:World}{B n c:Nat}{e:TypeId}{A:Option Addr}{xs:List Value}(h:w.ownsRow B e 1 (.slice A n c) n xs):Mine w B e A n xs:=by
 intro hn
 rcases h.2 with ⟨hv,h0⟩|⟨g,cap,cur,hv,hb,hg,hnc,hcm,hcs,ht⟩
 ·omega
 ·injection hv with hA _ hc
  exact⟨g,cur,hA,hb,hg,by omega,by simpa using ht⟩
def bstr (l:List UInt8):ByteArray:=⟨l.toArray⟩
theorem jl6 (l:List UInt8):(bstr l).data.toList=l:=by simp [bstr]
theorem jhp (l:List UInt8):(bstr l).size=l.length:=by simp [bstr,ByteArray.size]
theorem jgG {P:Program}{w:World}{A:Option Addr}{n c:Nat}{l:List UInt8}(src e dst:TypeId)(hs:P.underlying src=some (.slice e))(he:P.underlying e=some (.int .u8))(hd:P.underlying dst=some .string)
  (h:Sl w 1 A n c (cells l)):(convert src dst (.slice A n c)).run P w= .ok (.string (bstr l)) w:=by
 have hn:l.length=n:=by have:=h.len;rw [jaa] at this;omega
 rcases A with _|ad
 ·have hx:l= []:=by
   rcases l with _|⟨u,r⟩
   ·rfl
   ·obtain⟨_,_,e,_⟩:=h.cell 0 (bv u) rfl
    cases e
  subst hx;exact run_convert_bytes_nil w src e hs he n c dst hd
 ·rw [run_convert_bytes_string w src dst e _ n c hs he hd,run_bytesToString w ad n c (l.map λ u=>(u.toNat:Int)),foldl_push_bytes]
  ·simp only [bstr,List.map_map]
   congr 2
   have:(λ n:Int=>UInt8.ofNat n.toNat)∘(λ u:UInt8=>(u.toNat:Int))=id:=by
    funext u
    simp
   rw [this];simp [ByteArray.empty,ByteArray.emptyWithCapacity]
   rfl
  ·have hf:=h.firstCells (P:=P)
   simp only [Builtin.firstCells,Nat.mul_one] at hf;rw [hf]
   congr 2
   simp [cells,bv]
theorem Sl.sub {w:World}{size n c:Nat}{A:Option Addr}{xs:List Value}(h:Sl w size A n c xs)(lo hi c':Nat)(h1:lo<=hi)(h2:hi<=n)(hc:hi-lo<=c')(hc':c' <=maxLen):
  Sl w size (A.map (·.add (lo*size))) (hi-lo) c' ((xs.drop (lo*size)).take ((hi-lo)*size)):=by
 refine⟨?_,hc,hc',λ j u hu=> ?_⟩
 ·rw [List.length_take,List.length_drop,h.len,<-Nat.sub_mul]
  exact Nat.min_eq_left (Nat.mul_le_mul_right _ (by omega))
 ·rw [List.getElem?_take] at hu
  split at hu
  ·rw [List.getElem?_drop] at hu
   obtain⟨b,o,rfl,hcell⟩:=h.cell _ u hu;refine⟨b,o+lo*size, ?_,by rw [Nat.add_assoc];exact hcell⟩;rw [Option.map_some,Addr.add_lit]
  ·cases hu
theorem Sl.sub1 {w:World}{n c:Nat}{A:Option Addr}{l:List UInt8}(h:Sl w 1 A n c (cells l))(lo hi c':Nat)(h1:lo<=hi)(h2:hi<=n)(hc:hi-lo<=c')(hc':c' <=maxLen):
  Sl w 1 (A.map (·.add lo)) (hi-lo) c' (cells ((l.drop lo).take (hi-lo))):=by
 have:=h.sub lo hi c' h1 h2 hc hc'
 rwa [Nat.mul_one,Nat.mul_one,<-jc8,<-jc7] at this
theorem jiI {k1 k2 k3:IntKind}{a b c a' b' c':Int}(h1:a=a')(h2:b=b')(h3:c=c'):Ending.returned (.tuple #[.int k1 a, .int k2 b, .int k3 c])=Ending.returned (.tuple #[.int k1 a', .int k2 b', .int k3 c']):=by rw [h1,h2,h3]
theorem jqt {k1 k2:IntKind}{a b a' b':Int}(h1:a=a')(h2:b=b'):Ending.returned (.tuple #[.int k1 a, .int k2 b])=Ending.returned (.tuple #[.int k1 a', .int k2 b']):=by rw [h1,h2]
end
section
def jdA (B:Nat)(w:World)(l:List UInt8)(e:Ending)(w':World):Prop:=∃A n c,e= .returned (.slice A n c)∧Sl w' 1 A n c (cells l)∧Below B w w'
theorem jbf:(Tryz.prog.info? 5).map (λ i=>(i.zero,i.size,i.bytes))=some (some (.int .u8 0),1,1):=by kernel_rfl
section
variable {w:World}{B n c:Nat}{A:Option Addr}{xs:List Value}
theorem jbg {ops:Array Oper}{rest:List Oper}{o:Oper}{a:Act}{Q:Exit->Act->World->Prop}(hgd:o.guard=none)(s x:Operand)
  (ho:o.op= .call {callee:= .builtin .append,args:= #[s,x],argTypes:= #[105,105]})
  (hv:a.eval s= .slice A n c)(h:Own w B 5 1 A n c xs)(hB:B<=w.heap.size)
  (A2:Option Addr)(m c2:Nat)(ys:List UInt8)(hx:a.eval x= .slice A2 m c2)(hs:Sl w 1 A2 m c2 (cells ys))(h47:n+m<=140737488355328)
  (hk:∀A' c' w',Own w' B 5 1 A' (n+m) c' (xs++cells ys)->Below B w w' ->wpList Tryz.prog ops Q rest (a.put o.dst (.slice A' (n+m) c')) w'):wpList Tryz.prog ops Q (o::rest) a w:=by
 obtain⟨i0,hi,hz0,hz1,hz2⟩:=info_parts jbf;exact jce hgd s x _ _ ho i0 (.int .u8 0) 1 Tryz.underlying105 hi hz0 hz1 hz2 rfl (by decide) hv h hB m (cells ys) _ hx (hs.src Tryz.underlying105 (by decide) (cells_one ys)) (by unfold maxLen;omega) (by omega) hk
theorem je2 {ops:Array Oper}{rest:List Oper}{o:Oper}{a:Act}{Q:Exit->Act->World->Prop}(hgd:o.guard=none)(s x:Operand)
  (ho:o.op= .call {callee:= .builtin .append,args:= #[s,x],argTypes:= #[105,9]})
  (hv:a.eval s= .slice A n c)(h:Own w B 5 1 A n c xs)(hB:B<=w.heap.size)
  (t:ByteArray)(hx:a.eval x= .string t)(h47:n+t.size<=140737488355328)
  (hk:∀A' c' w',Own w' B 5 1 A' (n+t.size) c' (xs++cells t.data.toList)->Below B w w' ->wpList Tryz.prog ops Q rest (a.put o.dst (.slice A' (n+t.size) c')) w'):wpList Tryz.prog ops Q (o::rest) a w:=by
 obtain⟨i0,hi,hz0,hz1,hz2⟩:=info_parts jbf;exact jce hgd s x _ _ ho i0 (.int .u8 0) 1 Tryz.underlying105 hi hz0 hz1 hz2 rfl (by decide) hv h hB t.size (cells t.data.toList) _ hx (Src.ofString w Tryz.underlying9 t) (by unfold maxLen;omega) (by omega) hk
end
theorem jaG {w:World}{B n c:Nat}{A:Option Addr}{xs:List Value}{ops:Array Oper}{rest:List Oper}{o:Oper}{a:Act}{Q:Exit->Act->World->Prop}(hgd:o.guard=none)(s x:Operand)
  (ho:o.op= .call {callee:= .builtin .append,args:= #[s,x],argTypes:= #[105,105]})
  (hv:a.eval s= .slice A n c)(h:Own w B 5 1 A n c xs)(hB:B<=w.heap.size)
  (A2:Option Addr)(m c2:Nat)(ys:List UInt8)(hx:a.eval x= .slice A2 m c2)(hs:Sl w 1 A2 m c2 (cells ys))(h47:n+m<=140737488355328)
  (hk:∀A' c' w',Own w' B 5 1 A' (n+m) c' (xs++cells ys)->Below B w w' ->(0<m->w'.ownsRow B 5 1 (.slice A' (n+m) c') (n+m) (xs++cells ys))->wpList Tryz.prog ops Q rest (a.put o.dst (.slice A' (n+m) c')) w'):wpList Tryz.prog ops Q (o::rest) a w:=by
 obtain⟨i0,hi,hz0,hz1,hz2⟩:=info_parts jbf;exact jbX hgd s x _ _ ho i0 (.int .u8 0) 1 Tryz.underlying105 hi hz0 hz1 hz2 rfl (by decide) hv h hB m (cells ys) _ hx (hs.src Tryz.underlying105 (by decide) (cells_one ys)) (by unfold maxLen;omega) (by omega) hk
def jcw (B:Nat)(w:World)(l:List UInt8)(e:Ending)(w':World):Prop:=∃A n c,e= .returned (.slice A n c)∧Sl w' 1 A n c (cells l)∧Below B w w' ∧Mine w' B 5 A n (cells l)
theorem jb9 (z:Int)(k:Nat)(hz:z=(k:Int))(hk:k<=1073741824)(w:World):
  (Instr.makeSlice 105 (.int .i64 z) (.int .i64 z)).run Tryz.prog w= .ok (.slice (some ⟨w.heap.size,0,none⟩) k k) (w.alloc (.cells (madeCells #[.int .u8 0] k) 5)):=by
 obtain⟨i0,hi,hz0,hz1,hz2⟩:=info_parts jbf;subst hz;have h:=run_make (P:=Tryz.prog) w 105 5 i0 (.int .u8 0) Tryz.underlying105 hi hz0 .i64 .i64 (k:Int) (k:Int) (by omega) (by omega) (by rw [hz2];omega) (by omega);rw [hz1,Nat.mul_one,Int.toNat_natCast] at h;exact h
theorem Sl.noughts (w:World)(k:Nat)(hk:k<=maxLen):Sl (w.alloc (.cells (madeCells #[.int .u8 0] k) 5)) 1 (some ⟨w.heap.size,0,none⟩) k k (cells (List.replicate k 0)):=by
 have h:=Sl.made w (madeCells #[.int .u8 0] k) 5 1 k (by rw [size_madeCells,Nat.mul_one]) hk;rw [toList_madeCells_one] at h;have e:cells (List.replicate k 0)=List.replicate k (Value.int .u8 0):=by rw [cells,List.map_replicate];rfl
 rw [e];exact h
theorem jgH:(Tryz.prog.info? 105).map (λ i=>(i.zero,i.size,i.bytes))=some (some (.slice none 0 0),1,24):=by kernel_rfl
theorem jbE (z:Int)(k:Nat)(hz:z=(k:Int))(hk:k<=1048576)(w:World):
  (Instr.makeSlice 101 (.int .i64 z) (.int .i64 z)).run Tryz.prog w= .ok (.slice (some ⟨w.heap.size,0,none⟩) k k) (w.alloc (.cells (madeCells #[.slice none 0 0] k) 105)):=by
 obtain⟨i0,hi,hz0,hz1,hz2⟩:=info_parts jgH;subst hz;have h:=run_make (P:=Tryz.prog) w 101 105 i0 (.slice none 0 0) Tryz.underlying101 hi hz0 .i64 .i64 (k:Int) (k:Int) (by omega) (by omega) (by rw [hz2];omega) (by omega);rw [hz1,Nat.mul_one,Int.toNat_natCast] at h;exact h
end
section
def IsRow (k:IntKind)(w:World)(a:Option Addr)(len cap:Nat)(zs:List Int):Prop:=
 (a=none∧len=0∧cap=0∧zs= [])∨
 ∃x,a=some x∧len<=cap∧cap<=maxLen∧zs.length=cap∧(∀i,i<zs.length->w.cell? (x.add i)=some (.int k (zs.getD i 0)))∧∀n∈zs,(Lit.int k n).wf=true
theorem IsRow.sl {w:World}{a:Option Addr}{len cap:Nat}{zs:List Int}(h:IsRow .u8 w a len cap zs):∃l:List UInt8,Sl w 1 a len cap (cells l):=by
 rcases h with ⟨rfl,rfl,rfl,rfl⟩|⟨x,rfl,hl,hm,hz,hc,hw⟩
 ·exact⟨[],Sl.nil w 1 0 (by decide)⟩
 ·refine⟨(zs.take len).map λ n=>UInt8.ofNat n.toNat,by rw [jaa,List.length_map,List.length_take,Nat.mul_one];omega,hl,hm,λ j u hu=> ?_⟩
  have hj:j<len:=by
   rcases Nat.lt_or_ge j len with h' |h'
   ·exact h'
   ·rw [List.getElem?_eq_none (by rw [jaa,List.length_map,List.length_take];omega)] at hu
    cases hu
  obtain⟨b,off,rfl,hcell⟩:=ints_at hc (by omega);refine⟨b,off,rfl, ?_⟩;have hjz:j<zs.length:=by omega
  have hwf:=hw zs[j] (List.getElem_mem hjz);have hbd:=bounds_u8 hwf;rw [hcell j hjz];rw [jaE _ _ (by rw [List.length_map,List.length_take];omega)] at hu;rw [<-hu,bv,List.getElem_map,List.getElem_take,List.getD_eq_getElem?_getD,List.getElem?_eq_getElem hjz,Option.getD_some,UInt8.toNat_ofNat']
  congr 2
  omega
end
section
abbrev B8:=BitVec 8
def Lb (f:B8->B8):Prop:=∀a b,f (a ^^^ b)=f a ^^^ f b
theorem Lb.zero {f:B8->B8}(hf:Lb f):f 0=0:=by
 have h:=hf 0 0;rw [BitVec.xor_self,BitVec.xor_self] at h;exact h
theorem jqu (a b c d:B8):(a ^^^ b) ^^^ (c ^^^ d)=(a ^^^ c) ^^^ (b ^^^ d):=by
 rw [BitVec.xor_assoc,BitVec.xor_assoc,<-BitVec.xor_assoc b c d,BitVec.xor_comm b c,BitVec.xor_assoc c b d]
def sel (m:Nat->B8):Nat->B8->B8
 |0,_=>0
 |k+1,w=>sel m k w ^^^ (if w.getLsbD k then m k else 0)
theorem je3 {m m':Nat->B8}(w:B8):∀k,(∀i,i<k->m i=m' i)->sel m k w=sel m' k w
 |0,_=>rfl
 |k+1,h=>by rw [sel,sel,je3 w k (λ i hi=>h i (by omega)),h k (by omega)]
theorem jiJ {f:B8->B8}(hf:Lb f)(m:Nat->B8)(w:B8):∀k,f (sel m k w)=sel (λ i=>f (m i)) k w
 |0=>hf.zero
 |k+1=>by
  rw [sel,sel,hf,jiJ hf m w k]
  congr 1
  split
  ·rfl
  ·exact hf.zero
theorem jl7 (m:Nat->B8):∀k,Lb (sel m k)
 |0=>λ a b=>by simp [sel]
 |k+1=>λ a b=>by
  rw [sel,sel,sel,jl7 m k a b,jqu,BitVec.getLsbD_xor]
  congr 1
  cases a.getLsbD k<;>cases b.getLsbD k<;>simp
theorem jl8 (m m':Nat->B8)(w:B8):∀k,sel (λ i=>m i ^^^ m' i) k w=sel m k w ^^^ sel m' k w
 |0=>by simp [sel]
 |k+1=>by
  rw [sel,sel,sel,jl8 m m' w k,jqu]
  congr 1
  split
  ·rfl
  ·rfl
def bu (i:Nat):B8:=(1:B8)<<<i
theorem bu_bit (i j:Nat):(bu i).getLsbD j=(decide (j<8) && decide (j=i)):=by
 unfold bu;rw [BitVec.getLsbD_shiftLeft];simp only [BitVec.ofNat_eq_ofNat,BitVec.getLsbD_one]
 by_cases h:j<8<;>by_cases h2:j<i<;>by_cases h3:j=i<;>simp_all<;>omega
theorem jgd (w:B8)(j:Nat):∀k,k<=8->(sel bu k w).getLsbD j=(decide (j<k) && w.getLsbD j)
 |0,_=>by simp [sel]
 |k+1,hk=>by
  rw [sel,BitVec.getLsbD_xor,jgd w j k (by omega)]
  by_cases hw:w.getLsbD k
  ·rw [if_pos hw,bu_bit]
   by_cases h1:j=k
   ·subst h1
    simp [hw];omega
   ·have:decide (j<k+1)=decide (j<k):=by simp;omega
    simp [h1,this]
  ·rw [if_neg hw]
   by_cases h1:j=k
   ·subst h1
    simp [hw]
   ·have:decide (j<k+1)=decide (j<k):=by simp;omega
    simp [this]
theorem sel_bu (w:B8):sel bu 8 w=w:=by
 apply BitVec.eq_of_getLsbD_eq
 intro i hi;rw [jgd w i 8 (Nat.le_refl _)];simp [hi]
theorem jge {f g:B8->B8}(hf:Lb f)(hg:Lb g)(h:∀i,i<8->f (bu i)=g (bu i))(w:B8):f w=g w:=by
 rw [<-sel_bu w,jiJ hf,jiJ hg];exact je3 _ 8 h
def xt (a:B8):B8:=(a<<<1) ^^^ (if a.getLsbD 7 then 0x1d#8 else 0)
theorem xt_lin:Lb xt:=λ a b=>by
 unfold xt;rw [BitVec.shiftLeft_xor_distrib,jqu,BitVec.getLsbD_xor]
 congr 1
 cases a.getLsbD 7<;>cases b.getLsbD 7<;>simp
def xk (a:B8):Nat->B8
 |0=>a
 |k+1=>xt (xk a k)
theorem jp7:∀k,Lb (λ a=>xk a k)
 |0=>λ _ _=>rfl
 |k+1=>λ a b=>by
  show xt (xk (a ^^^ b) k)=xt (xk a k) ^^^ xt (xk b k)
  rw [<-xt_lin]
  congr 1
  exact jp7 k a b
def bm (a b:B8):B8:=sel (xk a) 8 b
theorem jbF (a:B8):Lb (bm a):=jl7 (xk a) 8
theorem jcQ (b:B8):Lb (λ a=>bm a b):=λ a a' =>by
 show sel (xk (a ^^^ a')) 8 b=sel (xk a) 8 b ^^^ sel (xk a') 8 b
 rw [<-jl8];exact je3 b 8 (λ i _=>jp7 i a a')
theorem jqv (a b:B8):bm a b=bm b a:=by
 refine jge (f:=λ a=>bm a b) (g:=λ a=>bm b a) (jcQ b) (jbF b) (λ i hi=> ?_) a;refine jge (f:=λ b=>bm (bu i) b) (g:=λ b=>bm b (bu i)) (jbF _) (jcQ _) (λ j hj=> ?_) b;exact(by decide +kernel:∀i,i<8->∀j,j<8->bm (bu i) (bu j)=bm (bu j) (bu i)) i hi j hj
theorem Lb.comp {f g:B8->B8}(hf:Lb f)(hg:Lb g):Lb λ x=>f (g x):=λ a b=>by show f (g (a ^^^ b))=f (g a) ^^^ f (g b);rw [hg,hf]
theorem joy (a b c:B8):bm (bm a b) c=bm a (bm b c):=by
 refine jge (f:=λ a=>bm (bm a b) c) (g:=λ a=>bm a (bm b c)) ((jcQ c).comp (jcQ b)) (jcQ _) (λ i hi=> ?_) a;refine jge (f:=λ b=>bm (bm (bu i) b) c) (g:=λ b=>bm (bu i) (bm b c)) ((jcQ c).comp (jbF _)) ((jbF _).comp (jcQ c)) (λ j hj=> ?_) b;refine jge (f:=λ c=>bm (bm (bu i) (bu j)) c) (g:=λ c=>bm (bu i) (bm (bu j) c)) (jbF _) ((jbF _).comp (jbF _)) (λ k hk=> ?_) c;exact(by decide +kernel:∀i,i<8->∀j,j<8->∀k,k<8->bm (bm (bu i) (bu j)) (bu k)=bm (bu i) (bm (bu j) (bu k))) i hi j hj k hk
theorem bm_one (a:B8):bm a 1=a:=jge (f:=λ a=>bm a 1) (g:=λ a=>a) (jcQ 1) (λ _ _=>rfl) (by decide +kernel) a
theorem jqw (a:B8):bm a 0=0:=(jbF a).zero
/-! The same of bytes. -/
def gm (u v:UInt8):UInt8:=⟨bm u.toBitVec v.toBitVec⟩
theorem jhq {u v:UInt8}(h:u.toBitVec=v.toBitVec):u=v:=UInt8.toBitVec_inj.1 h
theorem jqx (u v:UInt8):(gm u v).toBitVec=bm u.toBitVec v.toBitVec:=rfl
theorem jbl (u v:UInt8):gm u v=gm v u:=jhq (jqv _ _)
theorem jav (u v w:UInt8):gm (gm u v) w=gm u (gm v w):=jhq (joy _ _ _)
theorem jgf (u v w:UInt8):gm u (v ^^^ w)=gm u v ^^^ gm u w:=jhq (by rw [jqx,UInt8.toBitVec_xor,UInt8.toBitVec_xor,jbF];rfl)
theorem jjY (u v w:UInt8):gm (u ^^^ v) w=gm u w ^^^ gm v w:=by rw [jbl,jgf,jbl w u,jbl w v]
theorem jdm (u:UInt8):gm u 1=u:=jhq (bm_one _)
theorem jbY (u:UInt8):gm 1 u=u:=by rw [jbl,jdm]
theorem jaD (u:UInt8):gm u 0=0:=jhq (jqw _)
theorem ja1 (u:UInt8):gm 0 u=0:=by rw [jbl,jaD]
def gp (u:UInt8):Nat->UInt8
 |0=>1
 |k+1=>gm (gp u k) u
theorem jcR (u:UInt8)(a:Nat):∀b,gp u (a+b)=gm (gp u a) (gp u b)
 |0=>(jdm _).symm
 |b+1=>by rw [<-Nat.add_assoc,gp,jcR u a b,gp,jav]
theorem gp_one (u:UInt8):gp u 1=u:=jbY u
theorem je4 (u:UInt8)(a:Nat):gp u (a+a)=gm (gp u a) (gp u a):=jcR u a a
def g254 (u:UInt8):UInt8:=
 let a:=gm u u
 let b:=gm a a
 let c:=gm b b
 let d:=gm c c
 let e:=gm d d
 let f:=gm e e
 let g:=gm f f
 gm a (gm b (gm c (gm d (gm e (gm f g)))))
theorem jqy (u:UInt8):g254 u=gp u 254:=by
 have h2:=je4 u 1;have h4:=je4 u 2;have h8:=je4 u 4;have h16:=je4 u 8;have h32:=je4 u 16;have h64:=je4 u 32;have h128:=je4 u 64;rw [gp_one] at h2;simp only [Nat.reduceAdd] at h2 h4 h8 h16 h32 h64 h128;unfold g254;simp only;rw [<-h2,<-h4,<-h8,<-h16,<-h32,<-h64,<-h128,<-jcR,<-jcR,<-jcR,<-jcR,<-jcR,<-jcR]
theorem jl9 {p:UInt8->Bool}(h:(List.range 256).all (λ i=>p (UInt8.ofNat i))=true)(u:UInt8):p u=true:=by
 have:=List.all_eq_true.1 h u.toNat (by simpa using u.toNat_lt)
 rwa [UInt8.ofNat_toNat] at this
theorem joz (u:UInt8)(h:u≠0):gm u (g254 u)=1:=by
 have:=jl9 (p:=λ u=>u==0||gm u (g254 u)==1) (by decide +kernel) u
 simpa [h] using this
def ginv (u:UInt8):UInt8:=gp u 254
theorem jee (u:UInt8)(h:u≠0):gm u (ginv u)=1:=by rw [ginv,<-jqy,joz u h]
theorem jiK (u:UInt8)(h:u≠0):gm (ginv u) u=1:=by rw [jbl,jee u h]
theorem gp_255 (u:UInt8)(h:u≠0):gp u 255=1:=jiK u h
theorem jc9 {u v:UInt8}(h:gm u v=0):u=0∨v=0:=by
 by_cases hu:u=0
 ·exact .inl hu
 ·right
  have:=congrArg (gm (ginv u)) h
  rwa [<-jav,jiK u hu,jbY,jaD] at this
theorem gm_ne {u v:UInt8}(hu:u≠0)(hv:v≠0):gm u v≠0:=λ h=>(jc9 h).elim hu hv
theorem jhr {u:UInt8}(h:u≠0)(a:Nat):∀b,gp u (a+255*b)=gp u a
 |0=>rfl
 |b+1=>by rw [Nat.mul_succ,<-Nat.add_assoc,jcR,gp_255 u h,jdm,jhr h a b]
theorem jp8 {u:UInt8}(h:u≠0)(n:Nat):gp u (n % 255)=gp u n:=by
 have:=jhr h (n % 255) (n / 255);rw [Nat.mod_add_div] at this;exact this.symm
def gd (u v:UInt8):UInt8:=gm u (ginv v)
def gz (u:UInt8)(n:Int):UInt8:=gp u (n.emod 255).toNat
end
section
theorem ux0 (a:UInt8):a ^^^ 0=a:=UInt8.xor_zero
theorem uzx (a:UInt8):0 ^^^ a=a:=UInt8.zero_xor
theorem uxx (a:UInt8):a ^^^ a=0:=UInt8.xor_self
theorem uxor4 (a b c d:UInt8):(a ^^^ b) ^^^ (c ^^^ d)=(a ^^^ c) ^^^ (b ^^^ d):=by
 rw [UInt8.xor_assoc,UInt8.xor_assoc,<-UInt8.xor_assoc b c d,UInt8.xor_comm b c,UInt8.xor_assoc c b d]
theorem jma {a b:UInt8}(h:a ^^^ b=0):a=b:=by
 have:=congrArg (· ^^^ b) h
 simpa [UInt8.xor_assoc] using this
theorem je5 (a b:UInt8):(a ^^^ b) ^^^ b=a:=by rw [UInt8.xor_assoc,uxx,ux0]
def xs:Nat->(Nat->UInt8)->UInt8
 |0,_=>0
 |n+1,f=>xs n f ^^^ f n
theorem jaz {f g:Nat->UInt8}:∀n,(∀i,i<n->f i=g i)->xs n f=xs n g
 |0,_=>rfl
 |n+1,h=>by rw [xs,xs,jaz n (λ i hi=>h i (by omega)),h n (by omega)]
theorem je6 {f:Nat->UInt8}:∀n,(∀i,i<n->f i=0)->xs n f=0
 |0,_=>rfl
 |n+1,h=>by rw [xs,je6 n (λ i hi=>h i (by omega)),h n (by omega),ux0]
theorem jjZ (f g:Nat->UInt8):∀n,xs n (λ i=>f i ^^^ g i)=xs n f ^^^ xs n g
 |0=>(ux0 0).symm
 |n+1=>by rw [xs,xs,xs,jjZ f g n,uxor4]
theorem jmb (c:UInt8)(f:Nat->UInt8):∀n,gm c (xs n f)=xs n (λ i=>gm c (f i))
 |0=>jaD c
 |n+1=>by rw [xs,xs,jgf,jmb c f n]
theorem xs_gm (c:UInt8)(f:Nat->UInt8)(n:Nat):gm (xs n f) c=xs n (λ i=>gm (f i) c):=by
 rw [jbl,jmb];exact jaz n (λ i _=>jbl _ _)
theorem jmc (f:Nat->Nat->UInt8)(m:Nat):∀n,xs n (λ i=>xs m (λ j=>f i j))=xs m (λ j=>xs n (λ i=>f i j))
 |0=>(je6 m (λ _ _=>rfl)).symm
 |n+1=>by
  rw [xs,jmc f m n,<-jjZ]
  rfl
theorem jcf {f:Nat->UInt8}(j:Nat):∀n,j<n->(∀i,i<n->i≠j->f i=0)->xs n f=f j
 |0,h,_=>absurd h (by omega)
 |n+1,h,hz=>by
  rw [xs]
  by_cases hj:j=n
  ·subst hj
   rw [je6 _ (λ i hi=>hz i (by omega) (by omega)),uzx]
  ·rw [jcf j n (by omega) (λ i hi h' =>hz i (by omega) h'),hz n (by omega) (λ e=>hj e.symm),ux0]
def skip (p j:Nat):Nat:=if j<p then j else j+1
theorem jmd (f:Nat->UInt8)(p:Nat):∀n,p<=n->xs (n+1) f=xs n (λ j=>f (skip p j)) ^^^ f p
 |0,h=>by
  obtain rfl:p=0:=by omega
  rfl
 |n+1,h=>by
  by_cases hp:p=n+1
  ·subst hp
   rw [xs]
   congr 1
   exact jaz _ (λ i hi=>by rw [skip,if_pos hi])
  ·rw [xs,jmd f p n (by omega),xs,UInt8.xor_assoc,UInt8.xor_comm (f p),<-UInt8.xor_assoc]
   congr 2
   rw [skip,if_neg (by omega)]
theorem jme (p j:Nat):skip p j≠p:=by
 unfold skip
 split<;>omega
theorem jqz {p j n:Nat}(h:j<n):skip p j<n+1:=by
 unfold skip
 split<;>omega
def jhs (p k:Nat):Nat:=if k<p then k else k-1
theorem je7 (p j:Nat):jhs p (skip p j)=j:=by
 unfold skip jhs
 by_cases h1:j<p
 ·simp only [if_pos h1]
 ·rw [if_neg h1,if_neg (by omega)]
  omega
abbrev Mx:=Nat->Nat->UInt8
def mm (n:Nat)(A B:Mx):Mx:=λ i j=>xs n (λ k=>gm (A i k) (B k j))
def mv (n:Nat)(A:Mx)(v:Nat->UInt8):Nat->UInt8:=λ i=>xs n (λ k=>gm (A i k) (v k))
def one:Mx:=λ i j=>if i=j then 1 else 0
def Alike (r c:Nat)(A B:Mx):Prop:=∀i,i<r->∀j,j<c->A i j=B i j
theorem jda (n m:Nat)(A B C:Mx):mm m (mm n A B) C=mm n A (mm m B C):=by
 funext i j
 unfold mm;rw [show (λ k=>gm (xs n λ k_1=>gm (A i k_1) (B k_1 k)) (C k j))=(λ k=>xs n λ l=>gm (gm (A i l) (B l k)) (C k j)) from by
  funext k
  exact xs_gm _ _ _]
 rw [jmc]
 apply jaz
 intro l _;rw [jmb]
 apply jaz
 intro k _;rw [jav]
theorem jqA (n m:Nat)(A B:Mx)(v:Nat->UInt8):mv m (mm n A B) v=mv n A (mv m B v):=by
 funext i
 exact congrFun (congrFun (jda n m A B (λ k _=>v k)) i) 0
theorem jdb {n r c:Nat}{A A' B B':Mx}(hA:Alike r n A A')(hB:Alike n c B B'):Alike r c (mm n A B) (mm n A' B'):=λ i hi j hj=>
 jaz n (λ k hk=>by rw [hA i hi k hk,hB k hk j hj])
theorem jgI {n:Nat}{A A':Mx}{v v':Nat->UInt8}{i:Nat}(hA:∀k,k<n->A i k=A' i k)(hv:∀k,k<n->v k=v' k):mv n A v i=mv n A' v' i:=
 jaz n (λ k hk=>by rw [hA k hk,hv k hk])
theorem jht (n:Nat)(A:Mx)(i j:Nat)(hj:j<n):mm n A one i j=A i j:=by
 unfold mm;rw [jcf j n hj (λ k _ hk=>by rw [one,if_neg hk,jaD])];rw [one,if_pos rfl,jdm]
theorem jcx (n:Nat)(A:Mx)(i j:Nat)(hi:i<n):mm n one A i j=A i j:=by
 unfold mm;rw [jcf i n hi (λ k _ hk=>by rw [one,if_neg (λ e=>hk e.symm),ja1])];rw [one,if_pos rfl,jbY]
theorem jp9 (n:Nat)(v:Nat->UInt8)(i:Nat)(hi:i<n):mv n one v i=v i:=jcx n (λ k _=>v k) i 0 hi
theorem jiL {n:Nat}(A:Mx){v:Nat->UInt8}(h:∀k,k<n->v k=0)(i:Nat):mv n A v i=0:=je6 n (λ k hk=>by rw [h k hk,jaD])
theorem jbh:∀(r n:Nat) (A:Mx),r<n->∃v:Nat->UInt8,(∃j,j<n∧v j≠0)∧∀i,i<r->mv n A v i=0
 |0,n,A,h=>⟨λ _=>1,⟨0,h,(by decide:(1:UInt8)≠0)⟩,λ i hi=>absurd hi (by omega)⟩
 |r+1,n,A,h=>by
  by_cases hz:∀j,j<n->A r j=0
  ·obtain⟨v,hv,hs⟩:=jbh r n A (by omega)
   refine⟨v,hv,λ i hi=> ?_⟩
   by_cases he:i=r
   ·subst he
    exact je6 n (λ k hk=>by rw [hz k hk,ja1])
   ·exact hs i (by omega)
  ·have:∃p,p<n∧A r p≠0:=Decidable.byContradiction λ hh=>hz λ j hj=>Decidable.byContradiction λ hne=>hh ⟨j,hj,hne⟩
   obtain⟨p,hp,hap⟩:=this;obtain⟨n',rfl⟩:∃n',n=n'+1:=⟨n-1,by omega⟩
   let c:=ginv (A r p)
   obtain⟨v',⟨j,hj,hv'⟩,hs⟩:=jbh r n' (λ i j=>A i (skip p j) ^^^ gm (gm (A i p) c) (A r (skip p j))) (by omega)
   let t:=gm c (xs n' (λ j=>gm (A r (skip p j)) (v' j)))
   refine⟨λ k=>if k=p then t else v' (jhs p k),⟨skip p j,jqz hj, ?_⟩,λ i hi=> ?_⟩
   ·show (if skip p j=p then t else v' (jhs p (skip p j)))≠0
    rw [if_neg (jme p j),je7];exact hv'
   ·have e1:mv (n'+1) A (λ k=>if k=p then t else v' (jhs p k)) i=xs n' (λ j=>gm (A i (skip p j)) (v' j)) ^^^ gm (A i p) t:=by
     unfold mv;rw [jmd _ p n' (by omega)]
     congr 1
     ·apply jaz
      intro j _;dsimp only;rw [if_neg (jme p j),je7]
     ·dsimp only
      rw [if_pos rfl]
    rw [e1]
    by_cases he:i=r
    ·subst he
     show _ ^^^ gm (A i p) (gm c _)=0
     rw [<-jav,jee _ hap,jbY,uxx]
    ·have h2:=hs i (by omega)
     unfold mv at h2;rw [<-h2];have:(λ k=>gm (A i (skip p k) ^^^ gm (gm (A i p) c) (A r (skip p k))) (v' k))=(λ k=>gm (A i (skip p k)) (v' k) ^^^ gm (gm (A i p) c) (gm (A r (skip p k)) (v' k))):=by
      funext k
      rw [jjY,jav]
     rw [this,jjZ]
     congr 1
     rw [<-jmb,jav]
def Inj (n:Nat)(M:Mx):Prop:=∀v:Nat->UInt8,(∀i,i<n->mv n M v i=0)->∀j,j<n->v j=0
def Fac (r c k:Nat)(M:Mx):Prop:=∃C R:Mx,Alike r c M (mm k C R)
theorem jkK {n k:Nat}(h:k<n):¬Fac n n k one:=by
 rintro⟨C,R,hCR⟩;obtain⟨v,⟨j,hj,hv⟩,hs⟩:=jbh k n R h
 apply hv
 have e1:mv n one v j=mv n (mm k C R) v j:=jgI (λ l hl=>hCR j hj l hl) (λ _ _=>rfl);rw [jp9 n v j hj,jqA] at e1;rw [e1];exact jiL C hs j
theorem jhu {n:Nat}{M:Mx}(h:Inj n M):∃C:Mx,Alike n n (mm n M C) one:=by
 have each:∀q,∃u:Nat->UInt8,∀i,i<n->mv n M u i=one i q:=by
  intro q;obtain⟨v,⟨j,hj,hv⟩,hs⟩:=jbh n (n+1) (λ i j=>if j<n then M i j else one i q) (by omega);have e1:∀i,i<n->mv n M v i ^^^ gm (one i q) (v n)=0:=by
   intro i hi;have h1:=hs i hi;unfold mv at h1 ⊢;rw [xs] at h1;dsimp only at h1;rw [if_neg (by omega)] at h1;rw [<-h1]
   congr 1
   exact jaz n (λ k hk=>by rw [if_pos hk])
  have ht:v n≠0:=by
   intro ht;have hz:=h v (λ i hi=>by
    have:=e1 i hi
    rwa [ht,jaD,ux0] at this)
   by_cases hjn:j=n
   ·subst hjn
    exact hv ht
   ·exact hv (hz j (by omega))
  refine⟨λ k=>gm (v k) (ginv (v n)),λ i hi=> ?_⟩;have h2:=jma (e1 i hi);have h3:mv n M (λ k=>gm (v k) (ginv (v n))) i=gm (mv n M v i) (ginv (v n)):=by
   unfold mv;rw [xs_gm];exact jaz n (λ k _=>(jav _ _ _).symm)
  rw [h3,h2,jav,jee _ ht,jdm]
 exact⟨λ k q=>(each q).choose k,λ i hi q _=>(each q).choose_spec i hi⟩
theorem jiM {n:Nat}{A M:Mx}(h:Alike n n (mm n A M) one):Inj n M:=λ v hv j hj=>by
 have e1:mv n one v j=mv n (mm n A M) v j:=jgI (λ l hl=>(h j hj l hl).symm) (λ _ _=>rfl);rw [jp9 n v j hj,jqA] at e1;rw [e1];exact jiL A hv j
theorem jeB {n:Nat}{A B:Mx}(h:Alike n n (mm n A B) one):Alike n n (mm n B A) one:=by
 obtain⟨C,hC⟩:=jhu (jiM h);have e:Alike n n A C:=λ i hi j hj=>by
  have h1:=congrFun (congrFun (jda n n A B C) i) j;have h2:mm n (mm n A B) C i j=C i j:=by
   rw [jdb (r:=n) (c:=n) h (λ _ _ _ _=>rfl) i hi j hj];exact jcx n C i j hi
  have h3:mm n A (mm n B C) i j=A i j:=by
   rw [jdb (r:=n) (c:=n) (λ _ _ _ _=>rfl) hC i hi j hj];exact jht n A i j hj
  rw [<-h3,<-h2,h1]
 intro i hi j hj;rw [jdb (r:=n) (c:=n) (B':=C) (λ _ _ _ _=>rfl) e i hi j hj];exact hC i hi j hj
/-! Rank: the least width of a factor. -/
structure Rk (r c:Nat)(M:Mx)(k:Nat):Prop where
 fac:Fac r c k M
 least:∀k',k' <k->¬Fac r c k' M
theorem Rk.unique {r c:Nat}{M:Mx}{k k':Nat}(h:Rk r c M k)(h':Rk r c M k'):k=k':=by
 rcases Nat.lt_trichotomy k k' with h1|h1|h1
 ·exact absurd h.fac (h'.least _ h1)
 ·exact h1
 ·exact absurd h'.fac (h.least _ h1)
theorem joA (r c:Nat)(M:Mx):Fac r c r M:=⟨one,M,λ i hi j _=>(jcx r M i j hi).symm⟩
theorem Fac.congr {r c k:Nat}{M M':Mx}(h:Fac r c k M)(e:Alike r c M M'):Fac r c k M':=by
 obtain⟨C,R,hCR⟩:=h;exact⟨C,R,λ i hi j hj=>by rw [<-e i hi j hj,hCR i hi j hj]⟩
theorem Fac.left {r c k m:Nat}{M D:Mx}(h:Fac m c k M):Fac r c k (mm m D M):=by
 obtain⟨C,R,hCR⟩:=h;refine⟨mm m D C,R,λ i hi j hj=> ?_⟩;rw [jdb (r:=r) (c:=c) (λ _ _ _ _=>rfl) hCR i hi j hj,jda]
theorem jgJ {n:Nat}{A M:Mx}(h:Alike n n (mm n A M) one):Rk n n M n:=
 ⟨joA n n M,λ _ hk hf=>jkK hk ((hf.left (r:=n) (D:=A)).congr h)⟩
theorem jgK {k c:Nat}{K:Mx}{ld:Nat->Nat}(hc:∀a,a<k->ld a<c)(hd:∀a,a<k->K a (ld a)≠0)(hz:∀a b,a<k->b<a->K a (ld b)=0)(k':Nat)(h:k' <k):¬Fac k c k' K:=by
 rintro⟨C,R,hCR⟩;obtain⟨v,⟨j,hj,hv⟩,hs⟩:=jbh k' k (λ i b=>R i (ld b)) h;have hT:∀a,a<k->mv k (λ a b=>K a (ld b)) v a=0:=by
  intro a ha;have e1:mv k (λ a b=>K a (ld b)) v a=mv k (mm k' C (λ i b=>R i (ld b))) v a:=jgI (λ b hb=>hCR a ha (ld b) (hc b hb)) (λ _ _=>rfl);rw [e1,jqA];exact jiL C hs a
 have back:∀m,m<=k->∀a,k-m<=a->a<k->v a=0:=by
  intro m
  induction m with
  |zero=>exact λ _ a h1 h2=>absurd h1 (by omega)
  |succ m ih=>
   intro hm a h1 h2
   by_cases ha:k-m<=a
   ·exact ih (by omega) a ha h2
   ·have e1:=hT a h2
    unfold mv at e1;dsimp only at e1;rw [jcf a k h2 (λ b hb hne=>by
     rcases Nat.lt_or_ge b a with h3|h3
     ·rw [hz a b h2 h3,ja1]
     ·rw [ih (by omega) b (by omega) hb,jaD])] at e1
    exact(jc9 e1).resolve_left (hd a h2)
 exact hv (back k (Nat.le_refl _) j (by omega) hj)
end
section
structure Fr (S:Nat->Prop)(w w':World):Prop where
 os:w'.os=w.os
 tape:w'.tape=w.tape
 output:w'.output=w.output
 size:w.heap.size<=w'.heap.size
 block:∀k,k<w.heap.size->¬S k->w'.heap[k]? =w.heap[k]?
section
variable {S:Nat->Prop}{w w' a b c:World}
theorem Fr.refl (S:Nat->Prop)(w:World):Fr S w w:=⟨rfl,rfl,rfl,Nat.le_refl _,λ _ _ _=>rfl⟩
theorem Fr.trans (h:Fr S a b)(k:Fr S b c):Fr S a c:=
 ⟨k.os.trans h.os,k.tape.trans h.tape,k.output.trans h.output,Nat.le_trans h.size k.size,λ i hi hs=>(k.block i (Nat.lt_of_lt_of_le hi h.size) hs).trans (h.block i hi hs)⟩
theorem Fr.mono {S':Nat->Prop}(h:Fr S w w')(hs:∀k,S k->S' k):Fr S' w w':=⟨h.os,h.tape,h.output,h.size,λ i hi hn=>h.block i hi λ hk=>hn (hs i hk)⟩
theorem Fr.drew (h:Fr S a w):Fr S a w.drew:=⟨h.os,h.tape,h.output,h.size,h.block⟩
theorem Fr.drewN (h:Fr S a w)(n:Nat):Fr S a (w.drewN n):=⟨h.os,h.tape,h.output,h.size,h.block⟩
theorem Fr.of_below (h:Below w.heap.size w w'):Fr S w w':=⟨h.os,h.tape,h.output,h.size,λ k hk _=>h.block k hk⟩
theorem Fr.alloc (h:Fr S a w)(o:Obj):Fr S a (w.alloc o):=h.trans (Fr.of_below ((Below.refl _ _).alloc (Nat.le_refl _) o))
theorem Fr.setCell (h:Fr S a w){p:Addr}(hp:a.heap.size<=p.block∨S p.block)(u:Value):Fr S a (w.setCell p u):=
 ⟨h.os,h.tape,h.output,by simpa [World.setCell] using h.size,λ k hk hs=>(Below.heap_setCell _ _ _ _ (by
  rintro rfl
  rcases hp with hp|hp
  ·omega
  ·exact hs hp)).trans (h.block k hk hs)⟩
theorem Fr.below {B:Nat}(h:Fr S w w')(hB:B<=w.heap.size)(hs:∀k,S k->B<=k):Below B w w':=
 ⟨h.os,h.tape,h.output,h.size,λ k hk=>h.block k (Nat.lt_of_lt_of_le hk hB) λ hS=>by have:=hs k hS;omega⟩
theorem Fr.belowAll (h:Fr S w w')(hs:∀k,S k->w.heap.size<=k):Below w.heap.size w w':=h.below (Nat.le_refl _) hs
theorem Fr.of_belowAt {B:Nat}(h:Below B w w')(hs:∀k,B<=k->S k):Fr S w w':=
 ⟨h.os,h.tape,h.output,h.size,λ k _ hn=>h.block k (by
  rcases Nat.lt_or_ge k B with h' |h'
  ·exact h'
  ·exact absurd (hs k h') hn)⟩
theorem Fr.cell (h:Fr S w w'){p:Addr}(hp:p.block<w.heap.size)(hs:¬S p.block):w'.cell? p=w.cell? p:=World.cell?_of_block (w:=w) (h.block p.block hp hs)
theorem Fr.cell_some (h:Fr S w w'){p:Addr}{v:Value}(hp:w.cell? p=some v)(hs:¬S p.block):w'.cell? p=some v:=(h.cell (World.block_lt_of_cell? w _ hp) hs).trans hp
theorem Fr.row_some (h:Fr S w w'){k:Nat}{o:Obj}(hp:w.heap[k]? =some o)(hs:¬S k):w'.heap[k]? =some o:=by
 have h0:k<w.heap.size:=by
  rcases Nat.lt_or_ge k w.heap.size with h' |h'
  ·exact h'
  ·rw [Array.getElem?_eq_none h'] at hp
   cases hp
 exact(h.block k h0 hs).trans hp
end
theorem block_lt {w:World}{k:Nat}{o:Obj}(h:w.heap[k]? =some o):k<w.heap.size:=by
 rcases Nat.lt_or_ge k w.heap.size with h' |h'
 ·exact h'
 ·rw [Array.getElem?_eq_none h'] at h
  cases h
section
variable {S:Nat->Prop}{w w':World}{size n c B:Nat}{A:Option Addr}{xs:List Value}{e:TypeId}
theorem Sl.fr (h:Sl w size A n c xs)(hf:Fr S w w')(hA:∀b o,0<n->A=some ⟨b,o,none⟩->¬S b):Sl w' size A n c xs:=
 ⟨h.len,h.cap,h.top,λ j u hu=>by
  obtain⟨b,o,e,hc⟩:=h.cell j u hu;refine⟨b,o,e,hf.cell_some hc (hA b o ?_ e)⟩
  rcases Nat.eq_zero_or_pos n with rfl|hn
  ·have:=h.len
   rw [Nat.zero_mul] at this;rw [List.eq_nil_of_length_eq_zero this] at hu
   cases hu
  ·exact hn⟩
theorem Mine.fr (h:Mine w B e A n xs)(hf:Fr S w w')(hS:∀k,S k->k<B):Mine w' B e A n xs:=by
 intro hn;obtain⟨g,cur,hA,hB,hg,hs,ht⟩:=h hn;exact⟨g,cur,hA,hB,hf.row_some hg λ hk=>by have:=hS g hk;omega,hs,ht⟩
theorem Mine.slFr (h:Mine w B e A n xs)(hs:Sl w size A n c xs)(hf:Fr S w w')(hS:∀k,S k->k<B):Sl w' size A n c xs:=
 hs.fr hf λ b o hn hA hk=>by
  obtain⟨g,cur,hA',hB,_⟩:=h hn;rw [hA] at hA';injection hA' with hA'
  injection hA' with hA' _
  have:=hS b hk;omega
theorem Mine.lower {B':Nat}(h:Mine w B e A n xs)(hB:B' <=B):Mine w B' e A n xs:=by
 intro hn;obtain⟨g,cur,hA,hb,r⟩:=h hn;exact⟨g,cur,hA,Nat.le_trans hB hb,r⟩
end
def jdB (w:World)(e:Ending)(w':World):Prop:=e= .returned (.bool true)∧Below w.heap.size w w'
end
section
theorem Mine.set {w:World}{B n g j:Nat}{e:TypeId}{l:List UInt8}(h:Mine w B e (some ⟨g,0,none⟩) n (cells l))(hj:j<n)(u:UInt8):Mine (w.setCell ⟨g,j,none⟩ (.int .u8 (u.toNat:Int))) B e (some ⟨g,0,none⟩) n (cells (l.set j u)):=by
 intro hn;obtain⟨g',cur,hA,hb,hg,hs,ht⟩:=h hn;injection hA with hA
 injection hA with hA _
 subst hA;refine⟨g,_,rfl,hb,heap_setCell_same w g j cur e _ hg,by rw [Array.size_setIfInBounds];exact hs, ?_⟩;rw [Array.toList_setIfInBounds,List.take_set,ht,cells,cells,List.map_set]
 rfl
theorem Mine.at_ {w:World}{B n j:Nat}{e:TypeId}{A:Option Addr}{l:List UInt8}{u:UInt8}(h:Mine w B e A n (cells l))(hj:j<n)(hu:l[j]? =some u):
  ∃g,A=some ⟨g,0,none⟩∧B<=g∧w.cell? ⟨g,j,none⟩=some (.int .u8 (u.toNat:Int))∧w.frozen? ⟨g,j,none⟩=false:=by
 obtain⟨g,cur,rfl,hb,hg,hs,ht⟩:=h (by omega);refine⟨g,rfl,hb, ?_,frozen_of_row _ _ _ _ _ hg⟩;rw [cell_of_row _ _ _ _ _ _ hg];have h1:(cells l)[j]? =some (bv u):=by simp [cells,hu]
 rw [<-ht,List.getElem?_take_of_lt hj] at h1
 simpa [bv] using h1
theorem Mine.sl {w:World}{B n c:Nat}{e:TypeId}{A:Option Addr}{l:List UInt8}(h:Mine w B e A n (cells l))(hl:l.length=n)(hc:n<=c)(h63:c<=maxLen):Sl w 1 A n c (cells l):=
 ⟨by rw [jaa,hl,Nat.mul_one],hc,h63,λ j u hu=>by
  have hj:j<n:=by
   rcases Nat.lt_or_ge j n with h' |h'
   ·exact h'
   ·rw [List.getElem?_eq_none (by rw [jaa,hl];exact h')] at hu
    cases hu
  obtain⟨g,cur,rfl,_,hg,_,ht⟩:=h (by omega);refine⟨g,0,rfl, ?_⟩;rw [Nat.zero_add,cell_of_row _ _ _ _ _ _ hg];rw [<-ht,List.getElem?_take_of_lt hj] at hu
  simpa using hu⟩
theorem Mine.later {w w':World}{B n:Nat}{e:TypeId}{A:Option Addr}{xs:List Value}(h:Mine w B e A n xs)(hb:Below w.heap.size w w'):Mine w' B e A n xs:=by
 intro hn;obtain⟨g,cur,hA,hB,hg,hs,ht⟩:=h hn;refine⟨g,cur,hA,hB, ?_,hs,ht⟩;have h0:g<w.heap.size:=by
  rcases Nat.lt_or_ge g w.heap.size with h' |h'
  ·exact h'
  ·rw [Array.getElem?_eq_none h'] at hg
   cases hg
 rw [hb.block _ h0];exact hg
theorem Sl.lt {w:World}{size n c:Nat}{A:Option Addr}{xs:List Value}(h:Sl w size A n c xs)(hs:0<size){b o:Nat}(hn:0<n)(hA:A=some ⟨b,o,none⟩):b<w.heap.size:=by
 have hx:0<xs.length:=by rw [h.len];exact Nat.mul_pos hn hs
 obtain⟨b',o',e,hc⟩:=h.cell 0 xs[0] (List.getElem?_eq_getElem hx);rw [hA] at e;injection e with e
 injection e with e _
 subst e;exact World.block_lt_of_cell? w _ hc
theorem Mine.noughts (w:World)(k:Nat):Mine (w.alloc (.cells (madeCells #[.int .u8 0] k) 5)) w.heap.size 5 (some ⟨w.heap.size,0,none⟩) k (cells (List.replicate k 0)):=by
 intro _;have hl:(cells (List.replicate k 0))=List.replicate k (Value.int .u8 0):=by rw [cells,List.map_replicate];rfl
 refine⟨w.heap.size,_,rfl,Nat.le_refl _,heap_alloc_new w _,by rw [size_madeCells];exact Nat.le_refl _, ?_⟩;rw [toList_madeCells_one,hl,List.take_of_length_le (by simp)]
theorem joB (x y:UInt8):bits .xor .u8 (x.toNat:Int) (y.toNat:Int)=((x ^^^ y).toNat:Int):=by
 rw [u8_xor_nat _ _ x.toNat_lt y.toNat_lt,UInt8.toNat_xor]
end
section
def jau (l:List Int):List Value:=l.map (Value.int .i64)
theorem jaM (l:List Int):(jau l).length=l.length:=by simp [jau]
theorem jcg (l:List Int)(j:Nat)(h:j<l.length):(jau l)[j]? =some (.int .i64 l[j]):=by simp [jau,h]
def jbs (l:List Bool):List Value:=l.map Value.bool
theorem IsRow.sli {w:World}{a:Option Addr}{len cap:Nat}{zs:List Int}(h:IsRow .i64 w a len cap zs):∃l:List Int,l.length=len∧Sl w 1 a len cap (jau l)∧∀z∈l, -9223372036854775808<=z∧z<9223372036854775808:=by
 rcases h with ⟨rfl,rfl,rfl,rfl⟩|⟨x,rfl,hl,hm,hz,hc,hw⟩
 ·exact⟨[],rfl,Sl.nil w 1 0 (by decide),λ z hz=>by cases hz⟩
 ·refine⟨zs.take len,by rw [List.length_take];omega,⟨by rw [jaM,List.length_take,Nat.mul_one];omega,hl,hm,λ j u hu=> ?_⟩,λ z hz' =>by have:=bounds_i64 (hw z (List.mem_of_mem_take hz'));omega⟩
  have hj:j<len:=by
   rcases Nat.lt_or_ge j len with h' |h'
   ·exact h'
   ·rw [List.getElem?_eq_none (by rw [jaM,List.length_take];omega)] at hu
    cases hu
  obtain⟨b,off,rfl,hcell⟩:=ints_at hc (by omega);refine⟨b,off,rfl, ?_⟩;have hjz:j<zs.length:=by omega
  rw [hcell j hjz];rw [jcg _ _ (by rw [List.length_take];omega)] at hu;rw [<-hu,List.getElem_take,List.getD_eq_getElem?_getD,List.getElem?_eq_getElem hjz,Option.getD_some]
end
section
def jay (l:List Nat):List Value:=l.map λ (n:Nat)=>Value.int .i64 (n:Int)
theorem jar (l:List Nat):(jay l).length=l.length:=by simp [jay]
theorem jdC (l k:List Nat):jay (l++k)=jay l++jay k:=by simp [jay]
theorem jch (l:List Nat)(j:Nat)(h:j<l.length):(jay l)[j]? =some (.int .i64 (l[j]:Int)):=by simp [jay,h]
theorem jkL (l:List Nat):∀u∈jay l,u.oneCell' =true:=by
 intro u hu;obtain⟨_,_,rfl⟩:=List.mem_map.1 hu
 rfl
theorem info_i:(Tryz.prog.info? 3).map (λ i=>(i.zero,i.size,i.bytes))=some (some (.int .i64 0),1,8):=by kernel_rfl
theorem jcS {w:World}{B n c:Nat}{A:Option Addr}{xs:List Value}{ops:Array Oper}{rest:List Oper}{o:Oper}{a:Act}{Q:Exit->Act->World->Prop}(hgd:o.guard=none)(s x:Operand)
  (ho:o.op= .call {callee:= .builtin .append,args:= #[s,x],argTypes:= #[71,71]})
  (hv:a.eval s= .slice A n c)(h:Own w B 3 1 A n c xs)(hB:B<=w.heap.size)
  (A2:Option Addr)(m c2:Nat)(ys:List Nat)(hx:a.eval x= .slice A2 m c2)(hs:Sl w 1 A2 m c2 (jay ys))(h40:n+m<=17592186044416)
  (hk:∀A' c' w',Own w' B 3 1 A' (n+m) c' (xs++jay ys)->Below B w w' ->(0<m->w'.ownsRow B 3 1 (.slice A' (n+m) c') (n+m) (xs++jay ys))->wpList Tryz.prog ops Q rest (a.put o.dst (.slice A' (n+m) c')) w'):wpList Tryz.prog ops Q (o::rest) a w:=by
 obtain⟨i0,hi,hz0,hz1,hz2⟩:=info_parts info_i;exact jbX hgd s x _ _ ho i0 (.int .i64 0) 8 Tryz.underlying71 hi hz0 hz1 hz2 rfl (by decide) hv h hB m (jay ys) _ hx (hs.src Tryz.underlying71 (by decide) (jkL ys)) (by unfold maxLen;omega) (by omega) hk
theorem Sl.oneN (w:World)(t:TypeId)(n:Nat)(z:Int)(h:z=(n:Int)):Sl (w.alloc (.cells #[.int .i64 z] t)) 1 (some ⟨w.heap.size,0,none⟩) 1 1 (jay [n]):=by
 subst h;exact Sl.made w #[.int .i64 (n:Int)] t 1 1 rfl (by decide)
end
section
end
section
theorem jac {P:Program}{md:Region.Mode}{ops:Array Oper}{Q:Exit->Act->World->Prop}{S S':World->Prop}(hS:∀w,S' w->S w):
  ∀{fuel:Nat} {listed:Array Bool} {a:Act} {w:World},wpAnyH P md ops Q S' fuel listed a w->wpAnyH P md ops Q S fuel listed a w
 |0,_,_,_,h=>h
 |_+1,_,_,_,h=>⟨h.1,λ i hi=>wpOp_mono (λ _ w' h' =>⟨hS w' h'.1,jac hS h'.2⟩) (h.2 i hi)⟩
theorem jal {P:Program}{fn:Func}{p u:Tmp}{ty:TypeId}(h:fn.results= #[.cell p ty, .tmp u])(tmps:Array Value)(w:World)(g:Nat)(t:TypeId)(cs:Array Value)(fr:Nat × Nat)(d:TypeDesc)
  (hp:tmps.getD p undef= .pointer (some ⟨g,0,none⟩))(hg:w.heap[g]? =some (.cells cs t fr))
  (hu:P.underlying ty=some d)(hd:(match d with| .struct _| .array _ _=>true|_=>false)=true)(hi:(P.info? ty).map (·.size)=some cs.size):
  (results fn tmps).run P w= .ok (.tuple #[.agg cs,tmps.getD u undef]) w:=by
 have hp':tmps[p]?.getD undef= .pointer (some ⟨g,0,none⟩):=by simpa using hp
 simp [results,h,hp',asAddr,run_loadVar_row w g t ty cs fr d hg hu hd hi]
end
section
theorem jj0:Keyed Tryz.prog 3:=int_keyed Tryz.underlying3
theorem zeroI (w:World):(zeroValue 3).run Tryz.prog w= .ok (.int .i64 0) w:=by kernel_rfl
theorem je8 {a b:Int}(h:(DataW.lit (.int .i64 a):DataW Unit)= .lit (.int .i64 b)):a=b:=by
 injection h with h
 injection h
theorem jmf {x:Int}(h: -9223372036854775808<=x∧x<9223372036854775808):(Lit.int .i64 x).wf=true:=by
 have e1:IntKind.i64.min= -9223372036854775808:=by decide
 have e2:IntKind.i64.max=9223372036854775807:=by decide
 show (decide (_<=x) && decide (x<=_))=true
 rw [e1,e2,Bool.and_eq_true];exact⟨decide_eq_true h.1,decide_eq_true (by omega)⟩
theorem jkM {w w':World}{b n:Nat}{D:DataW Unit}{R:Value->Option (DataW Unit × List MemPlace)}{S:Nat->Prop}(h:w.ownsMap Tryz.prog 3 R b n D)(hf:Fr S w w')(hb:¬S b):w'.ownsMap Tryz.prog 3 R b n D:=by
 have hbl:=h.lt;obtain⟨es,clock,h1,h2,h3,h4⟩:=h;exact⟨es,clock,hf.row_some h1 hb,h2,h3,h4⟩
end
section
/-- Words for walks. -/
theorem sA {α:Type}(l:List α)(i:Nat)(a:α):l.toArray.setIfInBounds i a=(l.set i a).toArray:=List.setIfInBounds_toArray l i a
theorem sB {α:Type}(a b:α)(l:List α):(a::l).set 0 b=b::l:=List.set_cons_zero ..
theorem sC {α:Type}(a b:α)(l:List α)(n:Nat):(a::l).set (n+1) b=a::l.set n b:=List.set_cons_succ ..
theorem qH {p:Prop}(h:p):RowKit.Hid p:=h
section
variable {P:Program}{md:Region.Mode}{ops:Array Oper}{Q:Exit->Act->World->Prop}{S:World->Prop}(i:Nat)(d:Option Tmp){op:Op}{ty:TypeId}{pos:String}{af:Array Edge}{gd:Option (Tmp × Bool)}{v:Value}{fuel:Nat}{listed:Array Bool}{a a':Act}{w:World}
theorem tH (hi:ops[i]? =some ⟨d,op,ty,pos,af,gd⟩)
  (hy:YieldsIf P ops S ⟨d,op,ty,pos,af,gd⟩ v a)(hS:S w)(h:wpAnyH P md ops Q S fuel (listed.setIfInBounds i true) (a.put d v) w)
  (hs:Region.noSelect ops=true:=by kernel_rfl)(hf:Region.free md ops listed i=true:=by kernel_rfl)(hr:(Region.ready md ops listed).contains i=true:=by kernel_rfl)(hQ:∀c a w,Q (.panic c) (a.put d v) w->Q (.panic c) a w:=by exact λ _ _ _ h=>h):wpAnyH P md ops Q S (fuel+1) listed a w:=
 wpAnyH_take hi hs hf hr hQ hy hS h
theorem tL (hi:ops[i]? =some ⟨d,op,ty,pos,af,gd⟩)
  (hy:∀w,S w->(execOp a.eval ⟨d,op,ty,pos,af,gd⟩).run P w= .ok (.value v) w)(hS:S w)(h:wpAnyH P md ops Q S fuel (listed.setIfInBounds i true) (a.put d v) w)
  (hw:Region.wanted ⟨d,op,ty,pos,af,gd⟩ (yielded ops a.tmps)=true:=by rfl)
  (hs:Region.noSelect ops=true:=by kernel_rfl)(hf:Region.free md ops listed i=true:=by kernel_rfl)(hr:(Region.ready md ops listed).contains i=true:=by kernel_rfl)(hQ:∀c a w,Q (.panic c) (a.put d v) w->Q (.panic c) a w:=by exact λ _ _ _ h=>h):wpAnyH P md ops Q S (fuel+1) listed a w:=
 wpAnyH_take hi hs hf hr hQ (Or.inl ⟨hw,hy⟩) hS h
theorem tA (hi:ops[i]? =some ⟨d,op,ty,pos,af,gd⟩)(hS:S w)(h:wpAnyH P md ops Q S fuel (listed.setIfInBounds i true) a' w)
  (hy:∀w,S w->(execOp a.eval ⟨d,op,ty,pos,af,gd⟩).run P w= .ok (.value v) w:=by intro wq hSw;go_simp<;>with_reducible rfl)
  (ha:a.put d v=a':=by simp only [Act.put,sA,sB,sC]<;>rfl)
  (hw:Region.wanted ⟨d,op,ty,pos,af,gd⟩ (yielded ops a.tmps)=true:=by rfl)
  (hs:Region.noSelect ops=true:=by kernel_rfl)(hf:Region.free md ops listed i=true:=by kernel_rfl)(hr:(Region.ready md ops listed).contains i=true:=by kernel_rfl)(hQ:∀c a w,Q (.panic c) (a.put d v) w->Q (.panic c) a w:=by exact λ _ _ _ h=>h):wpAnyH P md ops Q S (fuel+1) listed a w:=
 wpAnyH_take hi hs hf hr hQ (Or.inl ⟨hw,hy⟩) hS (by rw [ha];exact h)
theorem tU (hi:ops[i]? =some ⟨d,op,ty,pos,af,gd⟩)
  (hS:S w)(h:wpAnyH P md ops Q S fuel (listed.setIfInBounds i true) a' w)
  (ha:a.put d undef=a':=by simp only [Act.put,sA,sB,sC]<;>rfl)
  (hw:Region.wanted ⟨d,op,ty,pos,af,gd⟩ (yielded ops a.tmps)=false:=by rfl)
  (hs:Region.noSelect ops=true:=by kernel_rfl)(hf:Region.free md ops listed i=true:=by kernel_rfl)(hr:(Region.ready md ops listed).contains i=true:=by kernel_rfl)(hQ:∀c a w,Q (.panic c) (a.put d undef) w->Q (.panic c) a w:=by exact λ _ _ _ h=>h):wpAnyH P md ops Q S (fuel+1) listed a w:=
 wpAnyH_take hi hs hf hr hQ (Or.inr ⟨hw,rfl⟩) hS (by rw [ha];exact h)
theorem rW (hi:ops[i]? =some ⟨d,op,ty,pos,af,gd⟩)
  (h:∀K':Act->World->Prop,Shut (∀a w,S w->(S w->wpAnyH P md ops Q S fuel (listed.setIfInBounds i true) a w)->K' a w)->if Region.wanted ⟨d,op,ty,pos,af,gd⟩ (yielded ops a.tmps)=true then Oper.wp P ⟨d,op,ty,pos,af,gd⟩ a w K' Q else K' (a.put d undef) w)
  (hr:Region.ready md ops listed= [i]:=by kernel_rfl):wpAnyH P md ops Q S (fuel+1) listed a w:=
 wpAnyH_ready hr (by simp) (AllReadyH.cons hi h AllReadyH.nil)
theorem tD (h:Q .normal a w)(hr:Region.ready md ops listed= []:=by kernel_rfl):wpAnyH P md ops Q S fuel listed a w:=wpAnyH_done hr h _
end
end
end Go.Proofs.YtmhejbihdghhaaaGreatDoor

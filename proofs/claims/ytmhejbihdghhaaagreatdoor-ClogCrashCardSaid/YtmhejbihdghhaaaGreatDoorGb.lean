/-
  Contracts of the library's lock and of what is done once, in one goroutine: the lock's two calls, the mark 'done'
-/
import Derived.Test.YtmhejbihdghhaaaGreatDoorProg
import Derived.Test.YtmhejbihdghhaaaGreatDoorGa
import Derived.Defers
import Derived.Laws.Pointers
import Derived.Laws.LoneSync
import Derived.RegionTactic
import Derived.RegionCalls
import Derived.Deep.RegionWith
import Derived.Laws.BitsAllLaws
import Derived.Laws.Shifts
import Derived.Deep.QuietTactic
import Derived.BigQuiet
import Derived.Deep.RegionHeld3
import Derived.Laws.CopyRow
import Derived.Laws.IdiomCopy
namespace Go.Proofs.YtmhejbihdghhaaaGreatDoor
set_option linter.unusedVariables false
open Go.RowKit
open Go.RowKit
open Go.RowKit
open Go.RowKit
open Go.RowKit
open Go.RowKit
open Go.RowKit
open Go.RowKit
open Go.RowKit
set_option maxRecDepth 100000
set_option maxHeartbeats 1600000
section
theorem disable (w:World):(callFunc 293 #[]).run Tryz.prog w= .ok (.value (.tuple #[])) w:=run_call_mark0 Tryz.func293 (by kernel_rfl) (by kernel_rfl) (by kernel_rfl) .disable (by kernel_rfl) w
theorem enable (w:World):(callFunc 295 #[]).run Tryz.prog w= .ok (.value (.tuple #[])) w:=run_call_mark0 Tryz.func295 (by kernel_rfl) (by kernel_rfl) (by kernel_rfl) .enable (by kernel_rfl) w
theorem acquire (a:Addr)(w:World):(callFunc 296 #[.pointer (some a)]).run Tryz.prog w= .ok (.value (.tuple #[])) w:=run_call_marked Tryz.func296 (by kernel_rfl) (by kernel_rfl) (by kernel_rfl) .acquire (by kernel_rfl) a w
theorem releaseMerge (a:Addr)(w:World):(callFunc 298 #[.pointer (some a)]).run Tryz.prog w= .ok (.value (.tuple #[])) w:=run_call_marked Tryz.func298 (by kernel_rfl) (by kernel_rfl) (by kernel_rfl) .releaseMerge (by kernel_rfl) a w
theorem jf2 (a:Addr)(x:Value)(u:FrameMode)(w:World)(hc:w.cell? a=some x)(hz:w.frozen? a=false):
  CallsD Tryz.prog 275 #[.pointer (some a), .bool true] u w λ e u' w' =>u' =u∧(e= .returned (.tuple #[])∧w' =w.drew.setCell a (.int .u32 1)):=by
 have hc':w.drew.cell? a=some x:=by go_simp
 have hz':w.drew.frozen? a=false:=by go_simp
 have hst:=run_call_store (P:=Tryz.prog) Tryz.func283 (by kernel_rfl) (by kernel_rfl) (by kernel_rfl) (by kernel_rfl) (k:= .u32) (y:=1) hc' hz';go_enter_d Tryz.func275,Tryz.ntmps275;go_wp2;go_region_calls
 all_goals (go_end0;exact⟨rfl,rfl⟩)
theorem unlock_deferred (a:Addr)(u:FrameMode)(w:World)(hc:w.cell? a=some (.int .i32 1))(hz:w.frozen? a=false):
  CallsD Tryz.prog 274 #[.pointer (some a)] u w λ e u' w' =>u' =u∧(e= .returned (.tuple #[])∧w' =w.setCell a (.int .i32 0)):=by
 have hd:=disable;have he:=enable;have hr:=releaseMerge;have hadd:=run_call_add (P:=Tryz.prog) Tryz.func299 (by kernel_rfl) (by kernel_rfl) (by kernel_rfl) .i32 (by kernel_rfl) (y:= -1) (s:=0) hc hz (by simp [go_sem];rfl);have hcv:=run_convert_to_unsafe (P:=Tryz.prog) (src:=377) (dst:=381) Tryz.underlying377 Tryz.underlying381 (by kernel_rfl) hc;go_enter_d Tryz.func274,Tryz.ntmps274;go_wp2;go_end0;go_wp2;go_end0;exact⟨rfl,rfl⟩
theorem lock_free (a:Addr)(w:World)(hc:w.cell? a=some (.int .i32 0))(hz:w.frozen? a=false):
  Calls Tryz.prog 273 #[.pointer (some a)] w λ e w' =>e= .returned (.tuple #[])∧w' =w.setCell a (.int .i32 1):=by
 have hd:=disable;have he:=enable;have ha:=acquire;have hcas:=run_call_cas_hit (P:=Tryz.prog) Tryz.func294 (by kernel_rfl) (by kernel_rfl) (by kernel_rfl) .i32 (by kernel_rfl) (y:=1) hc hz;have hc':(w.setCell a (.int .i32 1)).cell? a=some (.int .i32 1):=World.cell?_setCell_same w a _ hc;have hcv:=run_convert_to_unsafe (P:=Tryz.prog) (src:=377) (dst:=381) Tryz.underlying377 Tryz.underlying381 (by kernel_rfl) hc';go_enter Tryz.func273,Tryz.ntmps273;go_wp2
 first|go_end0|(simp only [Exit.inBlock,Exit.then];refine bodyPost_ret (results_none rfl _ _ _) rfl ?_)|refine bodyPost_ret (results_none rfl _ _ _) rfl ?_
 go_wp2;go_end0;exact⟨rfl,rfl⟩
theorem jdD (a:Addr)(d:Int)(w:World)(h:w.cell? a=some (.int .u32 d)):
  Calls Tryz.prog 258 #[.pointer (some a)] w λ e w' =>e= .returned (.bool (d !=0))∧w' =w:=by
 have hl:=run_call_load (P:=Tryz.prog) Tryz.func272 (by kernel_rfl) (by kernel_rfl) (by kernel_rfl) .u32 (by kernel_rfl) h;go_enter Tryz.func258,Tryz.ntmps258;go_wp2;go_ret;exact⟨rfl,rfl⟩
end
section
def pwL:List UInt8:= [1,2,4,8,16,32,64,128,29,58,116,232,205,135,19,38,76,152,45,90,180,117,234,201,143,3,6,12,24,48,96,192,157,39,78,156,37,74,148,53,106,212,181,119,238,193,159,35,70,140,5,10,20,40,80,160,93,186,105,210,185,111,222,161,95,190,97,194,153,47,94,188,101,202,137,15,30,60,120,240,253,231,211,187,107,214,177,127,254,225,223,163,91,182,113,226,217,175,67,134,17,34,68,136,13,26,52,104,208,189,103,206,129,31,62,124,248,237,199,147,59,118,236,197,151,51,102,204,133,23,46,92,184,109,218,169,79,158,33,66,132,21,42,84,168,77,154,41,82,164,85,170,73,146,57,114,228,213,183,115,230,209,191,99,198,145,63,126,252,229,215,179,123,246,241,255,227,219,171,75,150,49,98,196,149,55,110,220,165,87,174,65,130,25,50,100,200,141,7,14,28,56,112,224,221,167,83,166,81,162,89,178,121,242,249,239,195,155,43,86,172,69,138,9,18,36,72,144,61,122,244,245,247,243,251,235,203,139,11,22,44,88,176,125,250,233,207,131,27,54,108,216,173,71,142]
def exL:List UInt8:= [0,0,1,25,2,50,26,198,3,223,51,238,27,104,199,75,4,100,224,14,52,141,239,129,28,193,105,248,200,8,76,113,5,138,101,47,225,36,15,33,53,147,142,218,240,18,130,69,29,181,194,125,106,39,249,185,201,154,9,120,77,228,114,166,6,191,139,98,102,221,48,253,226,152,37,179,16,145,34,136,54,208,148,206,143,150,219,189,241,210,19,92,131,56,70,64,30,66,182,163,195,72,126,110,107,58,40,84,250,133,186,61,202,94,155,159,10,21,121,43,78,212,229,172,115,243,167,87,7,112,192,247,140,128,99,13,103,74,222,237,49,197,254,24,227,165,153,119,38,184,180,124,17,68,146,217,35,32,137,46,55,63,209,91,149,188,207,205,144,135,151,178,220,252,190,97,242,86,211,171,20,42,93,158,132,60,57,83,71,109,65,162,31,45,67,216,183,123,164,118,196,23,73,236,127,12,111,246,108,161,59,82,41,157,85,170,251,96,134,177,187,204,62,90,203,89,95,176,156,169,160,81,11,245,22,235,122,117,44,215,79,174,213,233,230,231,173,232,116,214,244,234,168,80,88,175]
def pwF (i:Nat):UInt8:=pwL.getD i 0
def exF (v:Nat):UInt8:=exL.getD v 0
theorem jqB:∀i,i<254->pwF (i+1)=gm (pwF i) 2:=by decide +kernel
theorem pw_ex:∀v,v<256->v≠0->(pwF (exF v).toNat).toNat=v:=by decide +kernel
theorem ex_pw:∀i,i<255->(exF (pwF i).toNat).toNat=i:=by decide +kernel
theorem jmh:∀v,v<256->(exF v).toNat<255:=by decide +kernel
theorem pw_ne:∀i,i<255->(pwF i).toNat≠0:=by decide +kernel
theorem joC:∀i,i<255->pwF i=gp 2 i
 |0,_=>rfl
 |i+1,h=>by rw [jqB i (by omega),joC i (by omega),gp]
theorem jqC (u:UInt8)(h:u≠0):gp 2 (exF u.toNat).toNat=u:=by
 have h0:u.toNat≠0:=λ e=>h (UInt8.toNat_inj.1 e)
 rw [<-joC _ (jmh _ u.toNat_lt)];exact UInt8.toNat_inj.1 (pw_ex _ u.toNat_lt h0)
theorem jqa:(2:UInt8)≠0:=by decide
theorem gm_tab (u v:UInt8)(hu:u≠0)(hv:v≠0):gm u v=pwF (((exF u.toNat).toNat +(exF v.toNat).toNat) % 255):=by
 rw [joC _ (Nat.mod_lt _ (by omega)),jp8 jqa,jcR,jqC u hu,jqC v hv]
theorem jqb (u:UInt8)(a:Nat):∀b,gp u (a*b)=gp (gp u a) b
 |0=>rfl
 |b+1=>by rw [Nat.mul_succ,jcR,jqb u a b,gp]
theorem gp_tab (u:UInt8)(k:Nat)(hu:u≠0):gp u k=pwF ((exF u.toNat).toNat*k % 255):=by
 rw [joC _ (Nat.mod_lt _ (by omega)),jp8 jqa,jqb,jqC u hu]
/-! The rows behind n rounds. -/
def pwN (n i:Nat):UInt8:=if i<n then pwF i else 0
def exN (n v:Nat):UInt8:=if v≠0∧(exF v).toNat<n then exF v else 0
theorem joD (i:Nat):pwN 0 i=0:=by simp [pwN]
theorem joE (v:Nat):exN 0 v=0:=by simp [exN]
theorem joF (n i:Nat):pwN (n+1) i=if i=n then pwF n else pwN n i:=by
 unfold pwN
 by_cases h:i=n
 ·subst h;simp
 ·have:(i<n+1)=(i<n):=by simp;omega
  simp only [this,h,if_false]
theorem joG (n v:Nat)(hn:n<255)(hv:v<256):exN (n+1) v=if v=(pwF n).toNat then UInt8.ofNat n else exN n v:=by
 unfold exN
 by_cases h:v=(pwF n).toNat
 ·subst h
  have h1:=ex_pw n hn;rw [if_pos rfl,if_pos ⟨pw_ne n hn,by omega⟩]
  apply UInt8.toNat_inj.1
  rw [h1,UInt8.toNat_ofNat'];omega
 ·rw [if_neg h]
  have:(v≠0∧(exF v).toNat<n+1)=(v≠0∧(exF v).toNat<n):=by
   apply propext
   constructor
   ·rintro⟨h0,h1⟩
    refine⟨h0, ?_⟩
    rcases Nat.lt_or_ge (exF v).toNat n with h2|h2
    ·exact h2
    ·exfalso
     have h3:(exF v).toNat=n:=by omega
     have h4:=pw_ex v hv h0;rw [h3] at h4;exact h h4.symm
   ·rintro⟨h0,h1⟩
    exact⟨h0,by omega⟩
  simp only [this]
theorem jqD (i:Nat)(h:i<255):pwN 255 i=pwF i:=by simp [pwN,h]
theorem jqE (v:Nat)(h:v<256):exN 255 v=exF v:=by
 unfold exN
 by_cases h0:v=0
 ·subst h0
  rfl
 ·rw [if_pos ⟨h0,jmh v h⟩]
theorem dbl:∀i,i<255->((pwF i).toNat*2<256->(pwF ((i+1) % 255)).toNat=(pwF i).toNat*2)∧(256<=(pwF i).toNat*2->(pwF ((i+1) % 255)).toNat=((pwF i).toNat*2) ^^^ 285):=by decide +kernel
/-! A tables' block. -/
def tbAt (d m:Int)(f g:Nat->UInt8)(k:Nat):Value:=
 if k=0 then .int .u32 d else if k=1 then .int .i32 m else if k=2 then .int .u32 0 else if k<258 then bv (f (k-3)) else bv (g (k-258))
def rowOf (N:Nat)(c:Nat->Value):Array Value:=((List.range N).map c).toArray
theorem jkN (N:Nat)(c:Nat->Value):(rowOf N c).size=N:=by simp [rowOf]
theorem jhv (N:Nat)(c:Nat->Value)(k:Nat)(h:k<N):(rowOf N c)[k]? =some (c k):=by simp [rowOf,h]
theorem jiN {N:Nat}{c c':Nat->Value}(h:∀k,k<N->c k=c' k):rowOf N c=rowOf N c':=by
 unfold rowOf
 congr 1
 apply List.map_congr_left
 intro k hk;exact h k (by simpa using hk)
theorem jhw {N:Nat}{c c':Nat->Value}(j:Nat)(v:Value)(hv:v=c' j)(ho:∀k,k<N->k≠j->c k=c' k):(rowOf N c).setIfInBounds j v=rowOf N c':=by
 apply Array.ext
 ·simp [rowOf]
 ·intro i h1 h2
  rw [jkN] at h2
  by_cases hk:j=i
  ·subst hk
   simp [rowOf,hv]
  ·simp [rowOf,hk]
   exact ho i h2 (λ e=>hk e.symm)
def tb (d m:Int)(f g:Nat->UInt8):Array Value:=rowOf 514 (tbAt d m f g)
theorem jj1 (d m:Int)(f g:Nat->UInt8)(k:Nat)(h:k<514):(tb d m f g)[k]? =some (tbAt d m f g k):=jhv _ _ k h
theorem joH {d m:Int}{f g f' g':Nat->UInt8}(hf:∀i,i<255->f i=f' i)(hg:∀v,v<256->g v=g' v):tb d m f g=tb d m f' g':=by
 refine jiN λ k hk=> ?_
 unfold tbAt
 by_cases h0:k=0
 ·simp [h0]
 by_cases h1:k=1
 ·simp [h1]
 by_cases h2:k=2
 ·simp [h2]
 by_cases h3:k<258
 ·simp only [h0,h1,h2,h3,if_true,if_false,hf (k-3) (by omega)]
 ·simp only [h0,h1,h2,h3,if_false,hg (k-258) (by omega)]
theorem jj2 (d m d' m':Int)(f g f' g':Nat->UInt8)(j:Nat)(v:Value)(hv:v=tbAt d' m' f' g' j)(ho:∀k,k<514->k≠j->tbAt d m f g k=tbAt d' m' f' g' k):
  (tb d m f g).setIfInBounds j v=tb d' m' f' g':=jhw j v hv ho
theorem jqF (d m d':Int)(f g:Nat->UInt8):(tb d m f g).setIfInBounds 0 (.int .u32 d')=tb d' m f g:=
 jj2 _ _ _ _ _ _ _ _ 0 _ rfl λ k _ h=>by simp [tbAt,h]
theorem jmi (d m m':Int)(f g:Nat->UInt8):(tb d m f g).setIfInBounds 1 (.int .i32 m')=tb d m' f g:=
 jj2 _ _ _ _ _ _ _ _ 1 _ rfl λ k _ h=>by simp [tbAt,h]
theorem tb_pw (d m:Int)(f g:Nat->UInt8)(i:Nat)(x:UInt8)(h:i<255):(tb d m f g).setIfInBounds (3+i) (bv x)=tb d m (λ j=>if j=i then x else f j) g:=
 jj2 _ _ _ _ _ _ _ _ (3+i) _ (by
  have h0:¬3+i=0:=by omega
  have h1:¬3+i=1:=by omega
  have h2:¬3+i=2:=by omega
  have h3:3+i<258:=by omega
  have h4:3+i-3=i:=by omega
  simp only [tbAt,h0,h1,h2,h3,h4,if_true,if_false]) λ k _ hk=>by
   unfold tbAt
   by_cases h0:k=0
   ·simp [h0]
   by_cases h1:k=1
   ·simp [h1]
   by_cases h2:k=2
   ·simp [h2]
   have h4:¬k-3=i:=by omega
   simp only [h0,h1,h2,h4,if_false]
theorem tb_ex (d m:Int)(f g:Nat->UInt8)(v:Nat)(x:UInt8)(h:v<256):(tb d m f g).setIfInBounds (258+v) (bv x)=tb d m f (λ j=>if j=v then x else g j):=
 jj2 _ _ _ _ _ _ _ _ (258+v) _ (by
  have h0:¬258+v=0:=by omega
  have h1:¬258+v=1:=by omega
  have h2:¬258+v=2:=by omega
  have h3:¬258+v<258:=by omega
  have h4:258+v-258=v:=by omega
  simp only [tbAt,h0,h1,h2,h3,h4,if_true,if_false]) λ k _ hk=>by
   unfold tbAt
   by_cases h3:k<258
   ·simp only [h3,if_true]
   ·have h4:¬k-258=v:=by omega
    simp only [h3,h4,if_false]
theorem joI (d m:Int)(f g:Nat->UInt8)(i:Nat)(h:i<255):(tb d m f g)[3+i]? =some (bv (f i)):=by
 rw [jj1 _ _ _ _ _ (by omega)];have h0:¬3+i=0:=by omega
 have h1:¬3+i=1:=by omega
 have h2:¬3+i=2:=by omega
 have h3:3+i<258:=by omega
 have h4:3+i-3=i:=by omega
 simp only [tbAt,h0,h1,h2,h3,h4,if_true,if_false]
theorem joJ (d m:Int)(f g:Nat->UInt8)(v:Nat)(h:v<256):(tb d m f g)[258+v]? =some (bv (g v)):=by
 rw [jj1 _ _ _ _ _ (by omega)];have h0:¬258+v=0:=by omega
 have h1:¬258+v=1:=by omega
 have h2:¬258+v=2:=by omega
 have h3:¬258+v<258:=by omega
 have h4:258+v-258=v:=by omega
 simp only [tbAt,h0,h1,h2,h3,h4,if_false]
end
section
def Tabs (w:World)(T:Nat)(d m:Int)(f g:Nat->UInt8):Prop:=w.heap[T]? =some (.cells (tb d m f g) 169 (0,0))
abbrev Ft (T:Nat):Nat->Prop:=λ k=>k=T
section
variable {w w':World}{T:Nat}{d m:Int}{f g:Nat->UInt8}
theorem Tabs.lt (h:Tabs w T d m f g):T<w.heap.size:=block_lt h
theorem Tabs.cellPw (h:Tabs w T d m f g)(i:Nat)(hi:i<255):w.cell? ⟨T,3+i,none⟩=some (.int .u8 ((f i).toNat:Int)):=by
 rw [cell_of_row _ _ _ _ _ _ h];exact joI d m f g i hi
theorem Tabs.cellEx (h:Tabs w T d m f g)(v:Nat)(hv:v<256):w.cell? ⟨T,258+v,none⟩=some (.int .u8 ((g v).toNat:Int)):=by
 rw [cell_of_row _ _ _ _ _ _ h];exact joJ d m f g v hv
theorem Tabs.cell0 (h:Tabs w T d m f g):w.cell? ⟨T,0,none⟩=some (.int .u32 d):=by
 rw [cell_of_row _ _ _ _ _ _ h,jj1 _ _ _ _ _ (by omega)]
 rfl
theorem Tabs.cell1 (h:Tabs w T d m f g):w.cell? ⟨T,1,none⟩=some (.int .i32 m):=by
 rw [cell_of_row _ _ _ _ _ _ h,jj1 _ _ _ _ _ (by omega)]
 rfl
theorem Tabs.free (h:Tabs w T d m f g)(j:Nat):w.frozen? ⟨T,j,none⟩=false:=frozen_of_row _ _ _ _ _ h
theorem Tabs.set (h:Tabs w T d m f g){d' m':Int}{f' g':Nat->UInt8}(j:Nat)(v:Value)(e:(tb d m f g).setIfInBounds j v=tb d' m' f' g'):Tabs (w.setCell ⟨T,j,none⟩ v) T d' m' f' g':=by
 unfold Tabs;rw [heap_setCell_same w T j _ _ _ h,e]
theorem Tabs.drew (h:Tabs w T d m f g):Tabs w.drew T d m f g:=h
theorem Tabs.fr {S:Nat->Prop}(h:Tabs w T d m f g)(hf:Fr S w w')(hs:¬S T):Tabs w' T d m f g:=hf.row_some h hs
theorem Tabs.congr (h:Tabs w T d m f g){f' g':Nat->UInt8}(hf:∀i,i<255->f i=f' i)(hg:∀v,v<256->g v=g' v):Tabs w T d m f' g':=by
 unfold Tabs;rw [<-joH hf hg];exact h
end
theorem tb_val (d m:Int)(f g:Nat->UInt8)(v k:Nat)(x:UInt8)(h:v<256)(hx:(x.toNat:Int)=(k:Int)):(tb d m f g).setIfInBounds (258+v) (.int .u8 (k:Int))=tb d m f (λ j=>if j=v then x else g j):=by
 rw [<-hx];exact tb_ex d m f g v x h
theorem dbl2:∀i,i<255->256<=(pwF i).toNat*2->((pwF ((i+1) % 255)).toNat:Int)=bits .xor .i64 (((pwF i).toNat:Int)*2) 285:=by decide +kernel
theorem jmj (k:Nat)(hk:k<255):((pwF k).toNat:Int)*2<256∧((pwF ((k+1) % 255)).toNat:Int)=((pwF k).toNat:Int)*2∨¬((pwF k).toNat:Int)*2<256∧((pwF ((k+1) % 255)).toNat:Int)=bits .xor .i64 (((pwF k).toNat:Int)*2) 285:=by
 have h:=dbl k hk;have hlt:=(pwF k).toNat_lt
 rcases Nat.lt_or_ge ((pwF k).toNat*2) 256 with hd|hd
 ·left
  have:=h.1 hd;omega
 ·right
  exact⟨by omega,dbl2 k hk hd⟩
theorem joK (T:Nat)(d m:Int)(w:World)(h:Tabs w T d m (λ _=>0) (λ _=>0)):
  Calls Tryz.prog 228 #[.pointer (some ⟨T,0,none⟩)] w λ e w' =>e= .returned (.tuple #[])∧Tabs w' T d m pwF exF∧Fr (Ft T) w w':=by
 have H:=qH h;clear h;go_enter Tryz.func228,Tryz.ntmps228;go_wp2_with fail;go_loopw [2,4] (λ p i wr=>∃k:Nat,k<=255∧i= .int .i64 (k:Int)∧p= .int .i64 ((pwF (k % 255)).toNat:Int)∧Tabs wr T d m (pwN k) (exN k)∧Fr (Ft T) w wr) (λ _ i _=>255-(intOf i).toNat)
 case atStart=>exact⟨0,by omega,rfl,rfl,H.out.congr (λ i _=>(joD i).symm) (λ v _=>(joE v).symm),Fr.refl _ _⟩
 case round=>
  obtain⟨k,hk,rfl,rfl,ht,hf⟩:=hrel;have Ht:=qH ht;clear ht
  by_cases hlt:k<255
  ·rw [Nat.mod_eq_of_lt hlt]
   have hc1:=Ht.out.cellPw k hlt;have hz1:=Ht.out.free (3+k);have hp:=(pwF k).toNat_lt;have hc2:=Ht.out.cellEx (pwF k).toNat hp;have hz2:=Ht.out.free (258 +(pwF k).toNat);go_wp2_with fail
   all_goals
    go_roundw
    case rel=>
     refine⟨k+1,by omega,by go_num, ?_, ?_, ?_⟩
     ·rcases jmj k hlt with ⟨h1,h2⟩|⟨h1,h2⟩
      ·first|(rw [h2];done)|(exfalso;omega)
      ·first|(rw [h2];done)|(exfalso;omega)
     ·refine Tabs.congr ((Ht.out.set (3+k) _ (tb_pw _ _ _ _ k (pwF k) hlt)).set (258 +(pwF k).toNat) _ (tb_val _ _ _ _ _ k (UInt8.ofNat k) hp (by rw [UInt8.toNat_ofNat'];omega))) (λ i _=>(joF k i).symm) (λ v hv=>(joG k v hlt hv).symm)
     ·exact(hf.setCell (.inr rfl) _).setCell (.inr rfl) _
    case measure=>simp [intOf];omega
  ·obtain rfl:k=255:=by omega
   go_wp2_with fail;go_end0;exact⟨rfl,Ht.out.congr (λ i hi=>jqD i hi) (λ v hv=>jqE v hv),hf⟩
end
section
theorem joL (T:Nat)(w:World)(h:Tabs w T 0 0 (λ _=>0) (λ _=>0)):
  Calls Tryz.prog 259 #[.pointer (some ⟨T,0,none⟩), .func (.func 228) #[.pointer (some ⟨T,0,none⟩)] #[]] w λ e w' =>e= .returned (.tuple #[])∧Tabs w' T 1 0 pwF exF∧Fr (Ft T) w w':=by
 have hl1:Tabs (w.setCell ⟨T,1,none⟩ (.int .i32 1)) T 0 1 (λ _=>0) (λ _=>0):=h.set 1 _ (jmi _ _ _ _ _);have hnot:∀(x:Bool) (w:World),(Op.unary .not (.bool x)).run Tryz.prog w= .ok (.bool (!x)) w:=λ _ _=>rfl
 have Hl1:=qH hl1;clear hl1;have H:=qH h;clear h;go_enter_defers Tryz.func259,Tryz.ntmps259;go_wp2_with (first|(go_at_call 273;refine(lock_free ⟨T,1,none⟩ _ H.out.cell1 (H.out.free 1)).mono ?_;rintro e w' ⟨rfl,rfl⟩)|(go_at_call 258;refine(jdD ⟨T,0,none⟩ 0 _ Hl1.out.cell0).mono ?_;rintro e w' ⟨rfl,rfl⟩)|(go_at_call 228;refine(joK T 0 1 _ Hl1.out).mono ?_;rintro e w2 ⟨rfl,h2,hf2⟩));have hf:Fr (Ft T) w w2:=((Fr.refl (Ft T) w).setCell (.inr rfl) _).trans hf2;refine leaves_cons (f:=275) (args:= #[.pointer (some ⟨T,0,none⟩), .bool true]) (by simp) (by simp [go_sem]) ?_;refine(jf2 ⟨T,0,none⟩ (.int .u32 0) .returning _ h2.cell0 (h2.free 0)).mono ?_;rintro e u' w'' ⟨rfl,rfl,rfl⟩;have h3:Tabs (w2.drew.setCell ⟨T,0,none⟩ (.int .u32 1)) T 1 1 pwF exF:=h2.drew.set 0 _ (jqF _ _ _ _ _)
 refine leaves_cons (f:=274) (args:= #[.pointer (some ⟨T,1,none⟩)]) (by simp [settle]) (by simp [go_sem]) ?_;refine(unlock_deferred ⟨T,1,none⟩ _ _ h3.cell1 (h3.free 1)).mono ?_;rintro e u' w'' ⟨rfl,rfl,rfl⟩;have h4:Tabs ((w2.drew.setCell ⟨T,0,none⟩ (.int .u32 1)).setCell ⟨T,1,none⟩ (.int .i32 0)) T 1 0 pwF exF:=h3.set 1 _ (jmi _ _ _ _ _);simp [Leaves,settle,results,Tryz.results259];exact⟨h4,(hf.drew.setCell (.inr rfl) _).setCell (.inr rfl) _⟩
def jqG (w:World)(T:Nat):Prop:=Tabs w T 0 0 (λ _=>0) (λ _=>0)∨Tabs w T 1 0 pwF exF
theorem do_any (T:Nat)(w:World)(h:jqG w T):
  Calls Tryz.prog 227 #[.pointer (some ⟨T,0,none⟩), .func (.func 228) #[.pointer (some ⟨T,0,none⟩)] #[]] w λ e w' =>e= .returned (.tuple #[])∧Tabs w' T 1 0 pwF exF∧Fr (Ft T) w w':=by
 have hnot:∀(x:Bool) (w:World),(Op.unary .not (.bool x)).run Tryz.prog w= .ok (.bool (!x)) w:=λ _ _=>rfl
 rcases h with h|h
 ·have H:=qH h;clear h
  go_enter Tryz.func227,Tryz.ntmps227;go_wp2_with (go_at_call 258;refine(jdD ⟨T,0,none⟩ 0 _ H.out.cell0).mono ?_;rintro e w' ⟨rfl,rfl⟩);go_wp2_with (go_at_call 259;refine(joL T _ H.out).mono ?_;rintro e w' ⟨rfl,h2,hf⟩);go_end0;exact⟨rfl,h2,hf⟩
 ·have H:=qH h;clear h
  go_enter Tryz.func227,Tryz.ntmps227;go_wp2_with (go_at_call 258;refine(jdD ⟨T,0,none⟩ 1 _ H.out.cell0).mono ?_;rintro e w' ⟨rfl,rfl⟩);go_wp2_with fail;go_end0;exact⟨rfl,H.out,Fr.refl _ _⟩
structure Fld (w:World)(F T:Nat):Prop where
 cell:w.cell? ⟨F,0,none⟩=some (.pointer (some ⟨T,0,none⟩))
 tabs:jqG w T
 ne:F≠T
structure Fld1 (w:World)(F T:Nat):Prop where
 cell:w.cell? ⟨F,0,none⟩=some (.pointer (some ⟨T,0,none⟩))
 tabs:Tabs w T 1 0 pwF exF
 ne:F≠T
theorem Fld1.fld {w:World}{F T:Nat}(h:Fld1 w F T):Fld w F T:=⟨h.cell, .inr h.tabs,h.ne⟩
theorem Fld.fr {S:Nat->Prop}{w w':World}{F T:Nat}(h:Fld w F T)(hf:Fr S w w')(h1:¬S F)(h2:¬S T):Fld w' F T:=
 ⟨hf.cell_some h.cell h1,h.tabs.imp (λ k=>k.fr hf h2) (λ k=>k.fr hf h2),h.ne⟩
theorem Fld1.fr {S:Nat->Prop}{w w':World}{F T:Nat}(h:Fld1 w F T)(hf:Fr S w w')(h1:¬S F)(h2:¬S T):Fld1 w' F T:=
 ⟨hf.cell_some h.cell h1,h.tabs.fr hf h2,h.ne⟩
theorem Fld.ltF {w:World}{F T:Nat}(h:Fld w F T):F<w.heap.size:=World.block_lt_of_cell? w _ h.cell
theorem Fld.ltT {w:World}{F T:Nat}(h:Fld w F T):T<w.heap.size:=h.tabs.elim Tabs.lt Tabs.lt
theorem Fld.later {w w':World}{F T:Nat}(h:Fld w F T)(hb:Below w.heap.size w w'):Fld w' F T:=h.fr (S:=λ _=>False) (Fr.of_below hb) id id
theorem Fld1.later {w w':World}{F T:Nat}(h:Fld1 w F T)(hb:Below w.heap.size w w'):Fld1 w' F T:=h.fr (S:=λ _=>False) (Fr.of_below hb) id id
theorem jdF (F T:Nat)(w:World)(h:Fld w F T):
  Calls Tryz.prog 185 #[.pointer (some ⟨F,0,none⟩)] w λ e w' =>e= .returned (.pointer (some ⟨T,0,none⟩))∧Fld1 w' F T∧Fr (Ft T) w w':=by
 have hmf:∀(fn:Fn) (first cap:Array Value) (w:World),(Instr.makeFunc fn first cap).run Tryz.prog w= .ok (.func fn first cap) w:=λ _ _ _ _=>rfl
 have hne:=h.ne;have hc:=h.cell;have hcd:w.drew.cell? ⟨F,0,none⟩=some (.pointer (some ⟨T,0,none⟩)):=hc;have ht:jqG w.drew T:=h.tabs;have Ht:=qH ht;clear ht;clear h;go_enter Tryz.func185,Tryz.ntmps185;go_wp2_with fail;go_region_with (go_at_call 227;refine(do_any T _ Ht.out).mono ?_;rintro e w1 ⟨rfl,h1,hf1⟩;have hc1:=hf1.cell_some hcd (show ¬Ft T F from hne))
 all_goals
  go_wp2_with fail;go_ret;exact⟨rfl,⟨hc1,h1,hne⟩,(Fr.refl _ _).drew.trans hf1⟩
end
section
theorem jmk (w:World):(zeroValue 169).run Tryz.prog w= .ok (.agg (tb 0 0 (λ _=>0) (λ _=>0))) w:=by kernel_rfl
theorem jqH (w:World):
  Calls Tryz.prog 46 #[] w λ e w' =>e= .returned (.pointer (some ⟨w.heap.size+1,0,none⟩))∧Fld w' (w.heap.size+1) w.heap.size∧Below w.heap.size w w':=by
 have hz:=jmk w;go_enter Tryz.func46,Tryz.ntmps46;go_wp2_with fail;go_ret;refine⟨rfl,⟨by simp, .inl ?_,by omega⟩,((Below.refl _ _).alloc (Nat.le_refl _) _).alloc (by simp) _⟩;exact(Below.heap_alloc _ _ _ (by simp)).trans (heap_alloc_new w _)
theorem jbM (T:Nat)(u v:UInt8)(w:World)(h:Tabs w T 1 0 pwF exF):
  Calls Tryz.prog 186 #[.pointer (some ⟨T,0,none⟩), .int .u8 (u.toNat:Int), .int .u8 (v.toNat:Int)] w λ e w' =>e= .returned (.int .u8 ((gm u v).toNat:Int))∧∃k,w' =w.drewN k:=by
 have hu:=u.toNat_lt;have hv:=v.toNat_lt
 by_cases h0:u.toNat=0
 ·have hd:decide ((u.toNat:Int)=0)=true:=by simpa using h0
  have hg:gm u v=0:=by rw [UInt8.toNat_inj.1 (show u.toNat=(0:UInt8).toNat from h0),ja1]
  go_enter Tryz.func186,Tryz.ntmps186;go_wp2_with fail;go_ret;exact⟨by rw [hg];rfl,0,rfl⟩
 by_cases h1:v.toNat=0
 ·have hd:decide ((v.toNat:Int)=0)=true:=by simpa using h1
  have hg:gm u v=0:=by rw [UInt8.toNat_inj.1 (show v.toNat=(0:UInt8).toNat from h1),jaD]
  go_enter Tryz.func186,Tryz.ntmps186;go_wp2_with fail;go_ret;exact⟨by rw [hg];rfl,0,rfl⟩
 have e1:((u.toNat:Int)==0)=false:=by simp;omega
 have e2:((v.toNat:Int)==0)=false:=by simp;omega
 have hg:=gm_tab u v (λ e=>h0 (by rw [e];rfl)) (λ e=>h1 (by rw [e];rfl));have c1:=h.cellEx u.toNat hu;have c2:=h.cellEx v.toNat hv;have c3:=h.cellPw (((exF u.toNat).toNat +(exF v.toNat).toNat) % 255) (Nat.mod_lt _ (by omega));rw [<-hg] at c3;have l1:=jmh u.toNat hu;have l2:=jmh v.toNat hv;obtain⟨x,hx⟩:∃x,x=(exF u.toNat).toNat:=⟨_,rfl⟩;obtain⟨y,hy⟩:∃y,y=(exF v.toNat).toNat:=⟨_,rfl⟩;rw [<-hx] at c1 c3 l1;rw [<-hy] at c2 c3 l2;clear hx hy hg;have H:=qH h;clear h;go_enter Tryz.func186,Tryz.ntmps186;go_wp2_with fail;go_quiet (fail);go_wp2_with fail;go_ret;exact⟨rfl,_,rfl⟩
def jqI (n:Int):Int:=((n.tmod 255+255).tmod 255)
theorem joM (n:Int):jqI n=n % 255:=by
 unfold jqI
 rcases Int.le_total 0 n with h|h
 ·rw [Int.tmod_eq_emod_of_nonneg h,Int.tmod_eq_emod_of_nonneg (by omega)]
  omega
 ·have h1:n.tmod 255= -((-n).tmod 255):=by rw [Int.neg_tmod,Int.neg_neg]
  rw [h1,Int.tmod_eq_emod_of_nonneg (show 0<= -n by omega),Int.tmod_eq_emod_of_nonneg (by omega)];omega
theorem restW (n:Int):(wrap64 (n.tmod 255+255)).tmod 255=((n % 255).toNat:Int):=by
 have h:=joM n;unfold jqI at h;have h1: -255<n.tmod 255:=Int.lt_tmod_of_pos n (by omega);have h2:n.tmod 255<255:=Int.tmod_lt_of_pos n (by omega);have h3:wrap64 (n.tmod 255+255)=n.tmod 255+255:=by unfold wrap64;omega
 rw [h3,h];omega
theorem gz_tab (u:UInt8)(n:Int)(hu:u≠0):gz u n=pwF ((exF u.toNat).toNat*(n % 255).toNat % 255):=gp_tab u _ hu
theorem jgg (T:Nat)(u:UInt8)(n:Int)(hn1: -9223372036854775808<=n)(hn2:n<9223372036854775808)(w:World)(h:Tabs w T 1 0 pwF exF)(h0:u≠0):
  Calls Tryz.prog 187 #[.pointer (some ⟨T,0,none⟩), .int .u8 (u.toNat:Int), .int .i64 n] w λ e w' =>e= .returned (.int .u8 ((gz u n).toNat:Int))∧∃k,w' =w.drewN k:=by
 have hu:=u.toNat_lt;have hg:=gz_tab u n h0;have c1:=h.cellEx u.toNat hu;have c3:=h.cellPw ((exF u.toNat).toNat*(n % 255).toNat % 255) (Nat.mod_lt _ (by omega));rw [<-hg] at c3;have l1:=jmh u.toNat hu;obtain⟨x,hx⟩:∃x,x=(exF u.toNat).toNat:=⟨_,rfl⟩;rw [<-hx] at c1 c3 l1;clear hx hg;obtain⟨r,hr⟩:∃r,r=(n % 255).toNat:=⟨_,rfl⟩;have l3:r<255:=by omega
 obtain⟨m,hm⟩:∃m,m=x*r:=⟨_,rfl⟩;have l4:m<=254*254:=by rw [hm];exact Nat.mul_le_mul (by omega) (by omega)
 have hmi:(x:Int)*(r:Int)=(m:Int):=by rw [hm];omega
 rw [<-hr,<-hm] at c3;have Hr:=qH hr;clear hr hm;have H:=qH h;clear h;go_enter Tryz.func187,Tryz.ntmps187;go_wp2_with fail;rw [restW n,<-Hr.out];go_quiet (fail);go_wp2_with fail;go_ret;exact⟨rfl,_,rfl⟩
end
section
theorem Fld1.drewN {w:World}{F T:Nat}(h:Fld1 w F T)(n:Nat):Fld1 (w.drewN n) F T:=⟨h.cell,h.tabs,h.ne⟩
theorem jqc (v:UInt8):gz v (-1)=ginv v:=rfl
def joN (F T:Nat)(w:World)(v:Value)(e:Ending)(w':World):Prop:=e= .returned v∧Fld1 w' F T∧Fr (Ft T) w w'
theorem jqJ (F T:Nat)(u v:UInt8)(w:World)(h:Fld w F T):
  Calls Tryz.prog 276 #[.pointer (some ⟨F,0,none⟩), .int .u8 (u.toNat:Int), .int .u8 (v.toNat:Int)] w (joN F T w (.int .u8 ((gm u v).toNat:Int))):=by
 go_enter Tryz.func276,Tryz.ntmps276;go_wp2_with fail;refine(jdF F T _ h).mono ?_;rintro e w1 ⟨rfl,h1,hf1⟩;have H1:=qH h1;clear h1 h;go_wp2_with fail;refine(jbM T u v _ H1.out.tabs).mono ?_;rintro e w2 ⟨rfl,k,rfl⟩;go_wp2_with fail;go_ret;exact⟨rfl,H1.out.drewN k,hf1.drewN k⟩
theorem jqK (F T:Nat)(u v:UInt8)(w:World)(h:Fld w F T):
  Calls Tryz.prog 127 #[.pointer (some ⟨F,0,none⟩), .int .u8 (u.toNat:Int), .int .u8 (v.toNat:Int)] w (joN F T w (if v=0 then .tuple #[.int .u8 0, .int .i64 2] else .tuple #[.int .u8 ((gd u v).toNat:Int), .int .i64 0])):=by
 have hv:=v.toNat_lt
 by_cases h0:v=0
 ·subst h0
  go_enter Tryz.func127,Tryz.ntmps127;go_wp2_with fail;refine(jdF F T _ h).mono ?_;rintro e w1 ⟨rfl,h1,hf1⟩;have H1:=qH h1;clear h1 h;go_wp2_with fail;go_ret2;exact⟨rfl,H1.out,hf1⟩
 ·have h0':v.toNat≠0:=λ e=>h0 (UInt8.toNat_inj.1 e)
  have e1:((v.toNat:Int)==0)=false:=by simp;omega
  rw [if_neg h0];go_enter Tryz.func127,Tryz.ntmps127;go_wp2_with fail;refine(jdF F T _ h).mono ?_;rintro e w1 ⟨rfl,h1,hf1⟩;have H1:=qH h1;clear h1 h;go_wp2_with fail;refine(jgg T v (-1) (by decide) (by decide) _ H1.out.tabs h0).mono ?_;rintro e w2 ⟨rfl,k,rfl⟩;rw [jqc v];go_wp2_with fail;refine(jbM T u (ginv v) _ (H1.out.drewN k).tabs).mono ?_;rintro e w3 ⟨rfl,k2,rfl⟩;go_wp2_with fail;go_ret2;exact⟨rfl,H1.out.drewN _,hf1.drewN _⟩
end
section
def fld (c:UInt8)(r l:List UInt8):List UInt8:=l.mapIdx λ i x=>x ^^^ gm c (r.getD i 0)
theorem jgh (c:UInt8)(r l:List UInt8):(fld c r l).length=l.length:=by simp [fld]
def fldN (c:UInt8)(r l:List UInt8)(k:Nat):List UInt8:=l.mapIdx λ i x=>if i<k then x ^^^ gm c (r.getD i 0) else x
theorem jiO (c:UInt8)(r l:List UInt8)(k:Nat):(fldN c r l k).length=l.length:=by simp [fldN]
theorem jml (c:UInt8)(r l:List UInt8):fldN c r l 0=l:=by
 apply List.ext_getElem
 ·simp [fldN]
 ·intro i h1 h2
  simp [fldN]
theorem jqL (c:UInt8)(r l:List UInt8)(k:Nat)(h:k<l.length):(fldN c r l k)[k]? =some l[k]:=by simp [fldN,h]
theorem jmm (c:UInt8)(r l:List UInt8)(k:Nat)(h:k<l.length)(hr:k<r.length):(fldN c r l k).set k (l[k] ^^^ gm c r[k])=fldN c r l (k+1):=by
 apply List.ext_getElem
 ·simp [fldN]
 ·intro i h1 h2
  rw [List.getElem_set]
  by_cases he:k=i
  ·subst he
   simp [fldN,hr]
  ·rw [if_neg he]
   have h3:(i<k+1)=(i<k):=by apply propext;omega
   simp only [fldN,List.getElem_mapIdx,h3]
theorem joO (c:UInt8)(r l:List UInt8)(k:Nat)(h:l.length<=k∨r.length<=k):fldN c r l k=fld c r l:=by
 apply List.ext_getElem
 ·simp [fldN,fld]
 ·intro i h1 h2
  simp only [fldN,fld,List.getElem_mapIdx]
  by_cases h3:i<k
  ·rw [if_pos h3]
  ·rw [if_neg h3]
   rw [jiO] at h1;have h4:r.length<=i:=by omega
   rw [List.getD_eq_getElem?_getD,List.getElem?_eq_none h4,Option.getD_none,jaD];simp
theorem jiP (T g n cp:Nat)(l:List UInt8)(A:Option Addr)(m cq:Nat)(r:List UInt8)(c:UInt8)(w:World)(h:Tabs w T 1 0 pwF exF)(B:Nat)(hB:B<=w.heap.size)
  (hl:l.length=n)(hn:n<=maxLen)(hm:Mine w B 5 (some ⟨g,0,none⟩) n (cells l))(hT:T<B)(hr:Sl w 1 A m cq (cells r))(hA:∀b o,0<m->A=some ⟨b,o,none⟩->b<B):
  Calls Tryz.prog 239 #[.pointer (some ⟨T,0,none⟩), .slice (some ⟨g,0,none⟩) n cp, .int .u8 (c.toNat:Int), .slice A m cq] w λ e w' =>e= .returned (.tuple #[])∧Mine w' B 5 (some ⟨g,0,none⟩) n (cells (fld c r l))∧Below B w w':=by
 have hrl:=hr.len;rw [jaa,Nat.mul_one] at hrl;have hmx:=hr.lim;unfold maxLen at hmx hn;have H:=qH h;clear h;have Hr:=qH hr;clear hr;have Hm:=qH hm;clear hm;have Hrl:=qH hrl;clear hrl;have Hl:=qH hl;clear hl
 rcases Nat.lt_or_ge m n with hq|hq
 all_goals
  go_enter Tryz.func239,Tryz.ntmps239;go_wp2_with fail;go_loopw [14] (λ i wr=>∃j:Nat,j<=min n m∧i= .int .i64 (j:Int)∧Below B w wr∧Mine wr B 5 (some ⟨g,0,none⟩) n (cells (fldN c r l j))) (λ i _=>min n m-(intOf i).toNat)
  case atStart=>exact⟨0,by omega,rfl,Below.refl _ _,by rw [jml];exact Hm.out⟩
  case round=>
   obtain⟨j,hj,rfl,hb,hmj⟩:=hrel;have Hmj:=qH hmj;clear hmj
   by_cases hlt:j<min n m
   ·have hjl:j<l.length:=by rw [Hl.out];omega
    have hjr:j<r.length:=by rw [Hrl.out];omega
    have hjn:j<n:=by omega
    have hjm:j<m:=by omega
    obtain⟨g',hg',hBg,hcell,hfz⟩:=Hmj.out.at_ hjn (jqL c r l j hjl);injection hg' with hg'
    injection hg' with hg' _
    subst hg';obtain⟨b,o,rfl,hcr⟩:=Hr.out.at_ hjm;have hbB:=hA b o (by omega) rfl;have hcell2:=(hb.cell (p:=⟨b,o+j,none⟩) hbB).trans (hcr j _ (jaE r j hjr));have Hcr:=qH hcr;clear hcr;rw [bv] at hcell2;obtain⟨x,hx⟩:∃x,x=l[j]:=⟨_,rfl⟩;obtain⟨y,hy⟩:∃y,y=r[j]:=⟨_,rfl⟩;rw [<-hx] at hcell;rw [<-hy] at hcell2;have Hx:=qH hx;clear hx;have Hy:=qH hy;clear hy;have Ht:=qH (show Tabs wr T 1 0 pwF exF from (hb.block T hT).trans H.out);go_wp2_with fail;go_region_with (go_at_call 186;refine(jbM T c y _ (Ht.out.drew)).mono ?_;rintro e w1 ⟨rfl,kk,rfl⟩)
    all_goals
     go_wp2_with fail;go_roundw
     case rel=>
      refine⟨j+1,by omega,by go_num,(below_drewN hb _).setCell hBg _, ?_⟩;rw [joB,<-jmm c r l j hjl hjr,<-Hx.out,<-Hy.out];exact(Hmj.out.later (below_drewN (Below.refl _ _) _)).set hjn _
     case measure=>simp [intOf];omega
   ·obtain rfl:j=min n m:=by omega
    go_wp2_with fail;go_end0;exact⟨rfl,by rw [<-joO c r l (min n m) (by rw [Hl.out,Hrl.out];omega)];exact Hmj.out,hb⟩
end
section
def RetFr (S:Nat->Prop)(w:World)(l:List UInt8)(e:Ending)(w':World):Prop:=∃A n c,e= .returned (.slice A n c)∧Sl w' 1 A n c (cells l)∧Fr S w w' ∧Mine w' w.heap.size 5 A n (cells l)
def Off (T:Nat)(A:Option Addr)(m:Nat):Prop:=∀b o,0<m->A=some ⟨b,o,none⟩->b≠T
theorem Sl.off {w w':World}{T m c:Nat}{A:Option Addr}{xs:List Value}(h:Sl w 1 A m c xs)(hf:Fr (Ft T) w w')(ho:Off T A m):Sl w' 1 A m c xs:=h.fr hf λ b o hn hA hk=>ho b o hn hA hk
theorem jgL:(Tryz.prog.info? 5).map (·.size)=some 1:=by kernel_rfl
theorem jeC {w:World}{B n c cd:Nat}{g:Nat}{A:Option Addr}{l d:List UInt8}(h:Mine w B 5 (some ⟨g,0,none⟩) n (cells d))(hs:Sl w 1 A n c (cells l))(ty:TypeId):
  ∃w',(Builtin.copy_ #[105,105] ty #[.slice (some ⟨g,0,none⟩) n cd, .slice A n c]).run Tryz.prog w= .ok (.int .i64 (n:Int)) w' ∧Mine w' B 5 (some ⟨g,0,none⟩) n (cells l)∧Fr (λ k=>k=g) w w':=by
 have hl:=hs.len;rw [Nat.mul_one] at hl
 by_cases hn:n=0
 ·subst hn
  refine⟨w, ?_,λ h0=>absurd h0 (by omega),Fr.refl _ _⟩;exact run_copy_none w _ _ ty _ _ A 0 cd 0 c Tryz.underlying105 jgL (by simp)
 ·obtain⟨g',cur,hg',hB,hrow,hcur,ht⟩:=h (by omega)
  injection hg' with hg'
  injection hg' with hg' _
  subst hg';obtain⟨b,o,rfl,hc⟩:=hs.at_ (k:=0) (by omega);have hmin:Nat.min n n=n:=Nat.min_self n;have hr:=run_copy_row (P:=Tryz.prog) w 105 105 ty 5 g 0 n cd ⟨b,o,none⟩ n c cur 5 (cells l) Tryz.underlying105 jgL hrow (by rw [hl,hmin]) (λ j v hv=>by
   rw [show (⟨b,o,none⟩:Addr).add j=⟨b,o+j,none⟩ from by unfold Addr.add;split<;>simp_all];exact hc j v hv) (by rw [hl];omega) (cells_one l)
  rw [hl] at hr;refine⟨_,hr,λ _=>⟨g,_,rfl,hB,setRow_heap _ _ _ _ _ _ hrow, ?_, ?_⟩,⟨rfl,rfl,rfl,by simp,λ k hk hne=>setRow_other _ _ k _ hne⟩⟩
  ·simp only [List.size_toArray,List.length_append,List.length_take,List.length_drop,Array.length_toList,hl]
   omega
  ·simp only [List.take_zero,List.nil_append]
   rw [List.take_append_of_le_length (by rw [hl];exact Nat.le_refl _),List.take_of_length_le (by rw [hl];exact Nat.le_refl _)]
theorem jiQ (c:UInt8)(r:List UInt8)(m:Nat)(h:r.length=m):fld c r (List.replicate m 0)=r.map (gm c):=by
 apply List.ext_getElem
 ·simp [fld,h]
 ·intro i h1 h2
  have h3:i<r.length:=by simpa using h2
  simp [fld,h3]
theorem jmn (F T:Nat)(c:UInt8)(A:Option Addr)(m cq:Nat)(r:List UInt8)(w:World)(h:Fld w F T)(hr:Sl w 1 A m cq (cells r))(ho:Off T A m)(hm30:m<=1073741824):
  Calls Tryz.prog 305 #[.pointer (some ⟨F,0,none⟩), .int .u8 (c.toNat:Int), .slice A m cq] w λ e w' =>Fld1 w' F T∧RetFr (Ft T) w (r.map (gm c)) e w':=by
 have hrl:=hr.len;rw [jaa,Nat.mul_one] at hrl;have hmk:=jb9 (m:Int) m rfl hm30;have hlt:=λ b o hn hA=>hr.lt (b:=b) (o:=o) (by decide) hn hA
 have Hr:=qH hr;clear hr;have Hlt:=qH hlt;clear hlt;go_enter Tryz.func305,Tryz.ntmps305;go_wp2_with fail;refine(jdF F T _ h).mono ?_;rintro e w1 ⟨rfl,h1,hf1⟩;have H1:=qH h1;clear h1;have hT:=h.ltT;have hs1:=hf1.size;have Hq:=qH (show Sl w1 1 A m cq (cells r) from Hr.out.off hf1 ho);go_wp2_with fail;have hb1:Below w1.heap.size w1 (w1.alloc (.cells (madeCells #[.int .u8 0] m) 5)):=(Below.refl _ _).alloc (Nat.le_refl _) _;refine(jiP T w1.heap.size m m (List.replicate m 0) A m cq r c _ (H1.out.later hb1).tabs w1.heap.size hb1.size (by simp) Hq.out.lim (Mine.noughts w1 m) (by omega) (Hq.out.below hb1 (Nat.le_refl _)) ?_).mono ?_
 ·intro b o hn hA
  have:=Hlt.out b o hn hA;omega
 rintro e w2 ⟨rfl,hm2,hb2⟩;rw [jiQ c r m hrl] at hm2;have hb:=hb1.trans hb2;go_wp2_with fail;go_ret;exact⟨H1.out.later hb,_,_,_,rfl,hm2.sl (by rw [List.length_map,hrl]) (Nat.le_refl _) Hq.out.lim,hf1.trans (Fr.of_below hb),hm2.lower hs1⟩
theorem joP (F T:Nat)(c:UInt8)(A:Option Addr)(m cq:Nat)(r:List UInt8)(A2:Option Addr)(n cp:Nat)(l:List UInt8)(w:World)(h:Fld w F T)(hr:Sl w 1 A m cq (cells r))(ho:Off T A m)(hl:Sl w 1 A2 n cp (cells l))(ho2:Off T A2 n)(hn30:n<=1073741824):
  Calls Tryz.prog 202 #[.pointer (some ⟨F,0,none⟩), .int .u8 (c.toNat:Int), .slice A m cq, .slice A2 n cp] w λ e w' =>Fld1 w' F T∧RetFr (Ft T) w (fld c r l) e w':=by
 have hll:=hl.len;rw [jaa,Nat.mul_one] at hll;have hmk:=jb9 (n:Int) n rfl hn30;have hlt:=λ b o hn hA=>hr.lt (b:=b) (o:=o) (by decide) hn hA
 have Hr:=qH hr;clear hr;have Hl:=qH hl;clear hl;have Hlt:=qH hlt;clear hlt;go_enter Tryz.func202,Tryz.ntmps202;go_wp2_with fail;refine(jdF F T _ h).mono ?_;rintro e w1 ⟨rfl,h1,hf1⟩;have H1:=qH h1;clear h1;have hT:=h.ltT;have hs1:=hf1.size;have Hq:=qH (show Sl w1 1 A m cq (cells r) from Hr.out.off hf1 ho);have Hq2:=qH (show Sl w1 1 A2 n cp (cells l) from Hl.out.off hf1 ho2);have hb1:Below w1.heap.size w1 (w1.alloc (.cells (madeCells #[.int .u8 0] n) 5)):=(Below.refl _ _).alloc (Nat.le_refl _) _;obtain⟨w2,hcp,hm2,hf2⟩:=jeC (cd:=n) (Mine.noughts w1 n) (Hq2.out.below hb1 (Nat.le_refl _)) 3;have hb2:Below w1.heap.size w1 w2:=hb1.trans (hf2.below hb1.size (by rintro k rfl;exact Nat.le_refl _));have Hm2:=qH hm2;clear hm2;clear hf2 hb1;go_wp2_with fail;clear hcp
 refine(jiP T w1.heap.size n n l A m cq r c _ (H1.out.later hb2).tabs w1.heap.size hb2.size hll Hq2.out.lim Hm2.out (by omega) (Hq.out.below hb2 (Nat.le_refl _)) ?_).mono ?_
 ·intro b o hn hA
  have:=Hlt.out b o hn hA;omega
 rintro e w3 ⟨rfl,hm3,hb3⟩;have hb:=hb2.trans hb3;go_wp2_with fail;go_ret;exact⟨H1.out.later hb,_,_,_,rfl,hm3.sl (by rw [jgh,hll]) (Nat.le_refl _) Hq2.out.lim,hf1.trans (Fr.of_below hb),hm3.lower hs1⟩
theorem ret_b {a b:UInt8}(h:a=b):Ending.returned (.int .u8 (a.toNat:Int))= .returned (.int .u8 (b.toNat:Int)):=by rw [h]
def dotS (a b:List UInt8):UInt8:=xs (min a.length b.length) λ i=>gm (a.getD i 0) (b.getD i 0)
end
section
end
section
end
end Go.Proofs.YtmhejbihdghhaaaGreatDoor

/-
  Contracts of the document's answers of layer 5: May, Factor, Row, Even, and of the statements' own Few
-/
import Derived.Test.YtmhejbihdghhaaaGreatDoorHa
import Derived.BigQuiet
import Derived.Test.YtmhejbihdghhaaaGreatDoorHb
import Derived.StillTailTactics
import Derived.Test.YtmhejbihdghhaaaGreatDoorGd
import Derived.Test.YtmhejbihdghhaaaGreatDoorJa
import Derived.Test.YtmhejbihdghhaaaGreatDoorLa
import Derived.Test.YtmhejbihdghhaaaGreatDoorQcag
import Derived.Test.YtmhejbihdghhaaaGreatDoorGa
import Derived.Deep.QuietTactic
import Derived.Deep.RegionHeld3
import Derived.Test.YtmhejbihdghhaaaGreatDoorQcab
import Derived.Lib.SlBytesConst
import Derived.Test.YtmhejbihdghhaaaGreatDoorGe
namespace Go.Proofs.YtmhejbihdghhaaaGreatDoor
set_option linter.unusedVariables false
section
open Go.RowKit Go.Proofs
open Go.RowKit Go.Proofs
open Go.RowKit Go.Proofs
open Go.RowKit Go.Proofs
open Go.RowKit Go.Proofs
open Go.RowKit Go.Proofs
open Go.RowKit Go.Proofs
open Go.RowKit Go.Proofs
set_option maxRecDepth 20000
set_option maxHeartbeats 800000
section
theorem jpK (k m:Int)(hk: -9223372036854775808<=k∧k<9223372036854775808)(hm: -9223372036854775808<=m∧m<9223372036854775808)(w:World):
  Calls Tryz.prog 41 #[.int .i64 k, .int .i64 m] w λ e w' =>e= .returned (.bool (mayB k m))∧w' =w:=by
 obtain⟨hk1,hk2⟩:=hk;obtain⟨hm1,hm2⟩:=hm
 by_cases h1:1<=k
 ·by_cases h2:1<=m
  ·by_cases h4:k<=255
   ·by_cases h3:m<=255-k
    ·rw [jhy (by omega)]
     go_enter Tryz.func41,Tryz.ntmps41;go_wp2_with fail;go_ret;exact⟨rfl,rfl⟩
    ·rw [jdI (by omega)]
     go_enter Tryz.func41,Tryz.ntmps41;go_wp2_with fail;go_ret;exact⟨rfl,rfl⟩
   ·rw [jdI (by omega)]
    go_enter Tryz.func41,Tryz.ntmps41;go_wp2_with fail;go_ret;exact⟨rfl,rfl⟩
  ·rw [jdI (by omega)]
   go_enter Tryz.func41,Tryz.ntmps41;go_wp2_with fail;go_ret;exact⟨rfl,rfl⟩
 ·rw [jdI (by omega)]
  go_enter Tryz.func41,Tryz.ntmps41;go_wp2_with fail;go_ret;exact⟨rfl,rfl⟩
end
section
theorem jkn (k:Nat)(rs:List (List UInt8))(i p:Nat)(hp:p<(rs.getD 0 []).length):(shard k rs i)[p]? =some (xs k λ j=>gm (facB k i j) ((rs.getD j []).getD p 0)):=by
 rw [shard,sumR,jbZ _ _ _ hp]
 congr 1
 exact jaz k λ j hj=>by rw [jfo k i j hj]
theorem jh9 (k:Nat)(rs:List (List UInt8))(i:Nat):(shard k rs i).length=(rs.getD 0 []).length:=jcA _ _ _ _
def allL (k:Nat)(rs:List (List UInt8))(j:Nat):List (List UInt8):=(List.range j).map (shard k rs)
theorem jgw (k:Nat)(rs:List (List UInt8))(i:Nat)(hi:i<k)(hl:rs.length=k)(hlv:jbP rs=true):shard k rs i=rs.getD i []:=by
 apply List.ext_getElem?
 intro p
 rcases Nat.lt_or_ge p (rs.getD 0 []).length with hp|hp
 ·rw [jkn k rs i p hp,jcf i k hi (λ j hj hne=>by rw [facB,if_pos hi,if_neg (λ e=>hne e.symm),ja1]),facB,if_pos hi,if_pos rfl,jbY]
  rw [List.getD_eq_getElem?_getD (l:=rs.getD i []),List.getElem?_eq_getElem (by rw [jbt hlv (by omega)];exact hp),Option.getD_some]
 ·rw [List.getElem?_eq_none (by rw [jh9];exact hp),List.getElem?_eq_none (by rw [jbt hlv (by omega)];exact hp)]
theorem jrq (k m:Nat)(rs:List (List UInt8))(hl:rs.length=k)(hlv:jbP rs=true):allL k rs (k+m)=rs++parL k rs m:=by
 apply List.ext_getElem?
 intro i
 rcases Nat.lt_or_ge i k with hi|hi
 ·rw [List.getElem?_append_left (by omega)]
  rw [allL,List.getElem?_map,List.getElem?_range (by omega),Option.map_some,jgw k rs i hi hl hlv];simp [show i<rs.length from by omega]
 ·rw [List.getElem?_append_right (by omega),hl,allL,parL,List.getElem?_map,List.getElem?_map]
  rcases Nat.lt_or_ge i (k+m) with h2|h2
  ·rw [List.getElem?_range (by omega),List.getElem?_range (by omega),Option.map_some,Option.map_some,show k +(i-k)=i from by omega]
  ·rw [List.getElem?_eq_none (by simpa using h2),List.getElem?_eq_none (by simp;omega),Option.map_none,Option.map_none]
end
section
end
section
end
section
end
section
instance okJ_dec (rs:List (List UInt8)) (k S:Int):Decidable (okJ rs k S):=by unfold okJ;infer_instance
end
section
theorem jg7 (l:List UInt8)(V:Nat):∀j,(cutL l V j).flatten=rowL (j*V) λ p=>l.getD p 0
 |0=>by simp [cutL,rowL]
 |j+1=>by
  rw [<-jhF,List.flatten_append,jg7 l V j,show [cutR l V j].flatten=cutR l V j by simp,cutR,jfg,Nat.add_mul,Nat.one_mul]
  apply jbn
  intro p hp
  by_cases h:p<j*V
  ·rw [if_pos h]
  ·rw [if_neg h,show j*V +(p-j*V)=p by omega]
theorem jpL (l:List UInt8)(V k:Nat)(h:l.length<=k*V):(cutL l V k).flatten.take l.length=l:=by
 rw [jg7]
 apply List.ext_getElem?
 intro p;rw [List.getElem?_take]
 split
 ·rename_i hp
  rw [jbZ _ _ _ (by omega)];simp [hp]
 ·rename_i hp
  rw [List.getElem?_eq_none (by omega)]
theorem jrr (l:List UInt8)(V k:Nat):(cutL l V k).flatten.length=k*V:=by rw [jg7,jag]
theorem jd2 (l:List UInt8)(V k j:Nat)(h:j<k):(cutL l V k).getD j []=cutR l V j:=by simp [cutL,h]
theorem jko (l:List UInt8)(V k:Nat):jca (cutL l V k) (k:Int)=true:=by
 rw [jca,jaU,decide_eq_true rfl,Bool.true_and];refine decide_eq_true λ j hj=> ?_
 rw [jaU] at hj;rw [jd2 l V k j hj,jd2 l V k 0 (by omega),jaI,jaI]
theorem jg8 (l:List UInt8)(V k:Nat):∀r∈cutL l V k,r.length=V:=by
 intro r hr;obtain⟨j,_,rfl⟩:=List.mem_map.1 hr;exact jaI _ _ _
end
section
end
end
section
open Go.RowKit Go.Proofs
open Go.RowKit Go.Proofs
open Go.RowKit Go.Proofs
open Go.RowKit Go.Proofs
open Go.RowKit Go.Proofs
open Go.RowKit Go.Proofs
open Go.RowKit Go.Proofs
open Go.RowKit Go.Proofs
set_option maxRecDepth 20000
set_option maxHeartbeats 1600000
section
def jaW (n p i:Nat):Nat:=(p % n+i % n) % n
def idxN (n p d:Nat):Nat:=(d +(n-p % n)) % n
theorem jju {n p i:Nat}(hn:0<n):jaW n p i<n:=Nat.mod_lt _ hn
theorem jkp {n p d:Nat}(hn:0<n):idxN n p d<n:=Nat.mod_lt _ hn
theorem jeV {n x:Nat}(h1:n<=x)(h2:x<2*n):x % n=x-n:=by
 rw [Nat.mod_eq_sub_mod h1,Nat.mod_eq_of_lt (by omega)]
theorem jkq {n p d:Nat}(hd:d<n):jaW n p (idxN n p d)=d:=by
 have hq:p % n<n:=Nat.mod_lt _ (by omega);unfold jaW idxN;rw [Nat.mod_mod]
 rcases Nat.lt_or_ge d (p % n) with h|h
 ·rw [Nat.mod_eq_of_lt (show d +(n-p % n)<n by omega),jeV (by omega) (by omega)]
  omega
 ·rw [jeV (show n<=d +(n-p % n) by omega) (by omega),Nat.mod_eq_of_lt (by omega)]
  omega
theorem jeW {n p i:Nat}(hi:i<n):idxN n p (jaW n p i)=i:=by
 have hq:p % n<n:=Nat.mod_lt _ (by omega);unfold jaW idxN;rw [Nat.mod_eq_of_lt hi]
 rcases Nat.lt_or_ge (p % n+i) n with h|h
 ·rw [Nat.mod_eq_of_lt h,jeV (by omega) (by omega)]
  omega
 ·rw [jeV h (by omega),Nat.mod_eq_of_lt (by omega)]
  omega
def secT (kd:UInt8)(p g z:Nat)(row:List UInt8)(i:Nat):List UInt8:=Sh.sector ⟨kd,UInt8.ofNat i,p,g,z,row⟩
def jg9 (kd:UInt8)(p g i R:Nat)(l:List UInt8):Prop:=getE l=0∧isB (jaC l) kd (p:Int) g (i:Int)=true∧(jaC l).size<=R
structure RefOk (kd:UInt8)(p g z R:Nat):Prop where
 k1:1<=kd.toNat
 k4:kd.toNat<=4
 p:p<65536
 g:g<18446744073709551616
 z:z<=R
 R:R<65536
section
variable {kd:UInt8}{p g z R i:Nat}{row:List UInt8}
theorem jjv (h:RefOk kd p g z R)(hr:row.length=44):(Sh.mk kd (UInt8.ofNat i) p g z row).Ok∧(Sh.mk kd (UInt8.ofNat i) p g z row).kn=true:=by
 have:=h.z;have:=h.R;refine⟨⟨h.p,h.g,by show z<65536;omega,hr⟩, ?_⟩;have h1:=h.k1;have h4:=h.k4;simp [Sh.kn,h1,h4]
theorem jkr (h:RefOk kd p g z R)(hr:row.length=44):(secT kd p g z row i).length=64:=(jjv h hr).1.sector_len
theorem jks (h:RefOk kd p g z R)(hr:row.length=44):getE (secT kd p g z row i)=0∧jaC (secT kd p g z row i)=⟨kd,UInt8.ofNat i,p,g,z,row⟩:=by
 obtain⟨h1,h2⟩:=jjv (i:=i) h hr;obtain⟨h3,h4⟩:=h1.get_sector h2;exact⟨h3,(jcZ h3).symm.trans h4⟩
theorem jlC {kd':UInt8}{p' g':Nat}(h:RefOk kd p g z R)(hr:row.length=44)(hne:kd≠kd' ∨g≠g'):¬jg9 kd' p' g' i R (secT kd p g z row i):=by
 rintro⟨_,h2,_⟩;rw [(jks (i:=i) h hr).2] at h2;have:=of_decide_eq_true h2
 rcases hne with e|e
 ·exact e this.1
 ·exact e this.2.2.1
theorem jnV {j:Nat}:¬jg9 kd p g j R (full 0):=by
 rintro⟨h1,_⟩;have h2:=(jf4 h1).2;have h3:(jaC (full 0)).kn=false:=by decide
 rw [h3] at h2
 cases h2
end
structure Is13 (x:Dv)(N p:Nat)(s:List UInt8)(W:List UInt8->Prop)(gd:Bool):Prop where
 ok:x.Ok
 n:x.n=N
 yes:gd=true->x.gone=false∧x.look p=s
 no:gd=false->x.gone=true∨¬W (x.look p)
section
variable {x:Dv}{N p:Nat}{s:List UInt8}{W:List UInt8->Prop}{gd:Bool}
theorem jcO (hn:x.n=N)(hp:p<N):x.has (p:Int):=⟨by omega,by omega⟩
theorem Is13.write (ho:x.Ok)(hn:x.n=N)(hp:p<N)(hs:s.length=64):Is13 (x.write (p:Int) s) N p s W (!x.gone):=by
 refine⟨ho.write _ _, ?_,λ h=> ?_,λ h=> ?_⟩
 ·cases hg:x.gone
  ·rw [Dv.write_yes hg (jcO hn hp) hs];exact hn
  ·rw [Dv.write,if_pos hg];exact hn
 ·have hg:x.gone=false:=by simpa using h
  refine⟨by rw [Dv.write_yes hg (jcO hn hp) hs];exact hg, ?_⟩;rw [Dv.look_write hg (jcO hn hp) hs,Int.toNat_natCast,if_pos rfl]
 ·have hg:x.gone=true:=by simpa using h
  left
  rw [Dv.write,if_pos hg];exact hg
theorem Is13.aside (h:Is13 x N p s W gd){o:Nat}{t:List UInt8}(ho:o<N)(hne:o≠p)(ht:t.length=64):Is13 (x.write (o:Int) t) N p s W gd:=by
 cases hg:x.gone
 ·have hl:(x.write (o:Int) t).look p=x.look p:=by rw [Dv.look_write hg (jcO h.n ho) ht,Int.toNat_natCast,if_neg hne]
  have hg2:(x.write (o:Int) t).gone=false:=by rw [Dv.write_yes hg (jcO h.n ho) ht];exact hg
  refine⟨h.ok.write _ _,by rw [Dv.write_yes hg (jcO h.n ho) ht];exact h.n,λ e=>⟨hg2,by rw [hl];exact(h.yes e).2⟩,λ e=> ?_⟩;rw [hl,hg2];rw [<-hg];exact h.no e
 ·rw [Dv.write,if_pos hg]
  exact h
theorem Is13.flush (h:Is13 x N p s W gd)(hp:p<N):Is13 x.flush1 N p s W gd:=by
 cases hg:x.gone
 ·have e:x.flush1=x.flush:=by rw [Dv.flush1,if_neg (by rw [hg];decide)]
  rw [e];have hl:x.flush.look p=x.look p:=Dv.flush_look h.ok hg (by rw [h.n];exact hp);refine⟨h.ok.flush,by rw [Dv.flush_n];exact h.n,λ q=>⟨by rw [Dv.flush_gone];exact hg,by rw [hl];exact(h.yes q).2⟩,λ q=> ?_⟩;rw [hl,Dv.flush_gone];exact h.no q
 ·rw [Dv.flush1,if_pos hg]
  exact h
theorem jjw (ho:x.Ok):x.flush1.wait= []:=by
 cases hg:x.gone
 ·rw [Dv.flush1,if_neg (by rw [hg];decide)];rfl
 ·rw [Dv.flush1,if_pos hg];exact ho.dead hg
end
end
section
theorem dn13 {B:Nat}{a w:World}(h:Below B a w)(n:Nat):Below B a (w.drewN n):=⟨h.os,h.tape,h.output,h.size,h.block⟩
end
section
section
variable {Rep:World->(Nat->Prop)->Nat->Dv->Prop}
end
end
section
def cntG (n:Nat)(G:Nat->Bool):Nat:=(List.range n).countP G
theorem jha {n:Nat}{G:Nat->Bool}(h:∀d,d<n->G d=true):cntG n G=n:=by
 unfold cntG;rw [List.countP_eq_length.2 λ d hd=>h d (List.mem_range.1 hd),List.length_range]
theorem jia (n p:Nat)(G:Nat->Bool):cntG n (λ i=>G (jaW n p i))=cntG n G:=by
 have hperm:((List.range n).map (jaW n p)).Perm (List.range n):=by
  refine(List.perm_ext_iff_of_nodup ?_ List.nodup_range).2 λ d=> ?_
  ·refine List.pairwise_map.2 (List.Pairwise.imp_of_mem ?_ (List.nodup_range (n:=n)))
   intro a b ha hb hne hab
   apply hne
   have ha:=List.mem_range.1 ha;have hb:=List.mem_range.1 hb;rw [<-jeW (p:=p) ha,<-jeW (p:=p) hb,hab]
  ·rw [List.mem_map,List.mem_range]
   constructor
   ·rintro⟨i,hi,rfl⟩
    exact jju (by have:=List.mem_range.1 hi;omega)
   ·intro hd
    exact⟨idxN n p d,List.mem_range.2 (jkp (by omega)),jkq hd⟩
 have:=hperm.countP_eq G;rw [List.countP_map] at this;exact this
def jfN (k:Nat)(b:List UInt8)(i:Nat):List UInt8:=shard k (cutL b 44 k) i
theorem jaX {k i:Nat}{b:List UInt8}(hk:1<=k):(jfN k b i).length=44:=by
 unfold jfN shard;have h:((cutL b 44 k).getD 0 []).length=44:=jg8 b 44 k _ (by
  rw [List.getD_eq_getElem?_getD,List.getElem?_eq_getElem (by rw [jaU];omega),Option.getD_some];exact List.getElem_mem _)
 rw [h,jcA]
def jib (k n:Nat)(kd:UInt8)(p g:Nat)(b:List UInt8)(d:Nat):List UInt8:=secT kd p g b.length (jfN k b (idxN n p d)) (idxN n p d)
def jrs (k n:Nat)(kd:UInt8)(p g:Nat)(d:Nat):List UInt8->Prop:=jg9 kd p g (idxN n p d) (44*k)
theorem jcr {k n:Nat}{kd:UInt8}{p g:Nat}{b:List UInt8}{d:Nat}(hk:1<=k)(h:RefOk kd p g b.length (44*k)):(jib k n kd p g b d).length=64:=jkr h (jaX hk)
structure Str (xs:List Dv)(k n N:Nat)(kd:UInt8)(p g:Nat)(b:List UInt8)(G:Nat->Bool):Prop where
 len:xs.length=n
 at_:∀(d:Nat) (x:Dv),xs[d]? =some x->Is13 x N p (jib k n kd p g b d) (jrs k n kd p g d) (G d)
section
variable {xs:List Dv}{k n N:Nat}{kd:UInt8}{p g:Nat}{b:List UInt8}{G H:Nat->Bool}
theorem Str.congr (h:Str xs k n N kd p g b G)(he:∀d,d<n->G d=H d):Str xs k n N kd p g b H:=⟨h.len,λ d x hx=>by
 have:=h.at_ d x hx
 rwa [he d (by have:=jaF hx;have:=h.len;omega)] at this⟩
theorem Str.each {F:Nat->Dv->Dv}(h:Str xs k n N kd p g b G)(hF:∀(d:Nat) (x:Dv),xs[d]? =some x->d<n->Is13 (F d x) N p (jib k n kd p g b d) (jrs k n kd p g d) (H d)):Str (upTo F xs n) k n N kd p g b H:=⟨by rw [jaw,h.len],λ d x hx=>by
 have hd:=jaF hx;rw [jaw] at hd;have hy:xs[d]? =some (xs[d]):=List.getElem?_eq_getElem hd;rw [jaV hy] at hx;have hn:d<n:=by rw [<-h.len];exact hd
 rw [if_pos hn] at hx;injection hx with hx
 rw [<-hx];exact hF d _ hy hn⟩
end
end
section
def Idle (xs:List Dv):Prop:=∀(d:Nat) (x:Dv),xs[d]? =some x->x.wait= []
theorem Idle.wl {xs:List Dv}(h:Idle xs):Wl 100000 xs:=wl_nil h
theorem Idle.new {n N:Nat}:Idle (List.replicate n (Dv.new N)):=λ d x hx=>by
 rw [List.getElem?_replicate] at hx
 split at hx
 ·injection hx with hx;rw [<-hx];rfl
 ·cases hx
section
variable {xs:List Dv}{k n N:Nat}{kd:UInt8}{p g:Nat}{b:List UInt8}{G H:Nat->Bool}
def jaS (k n:Nat)(kd:UInt8)(p g:Nat)(b:List UInt8)(xs:List Dv):List Dv:=upTo (λ d x=>x.write (p:Int) (jib k n kd p g b d)) xs n
def jhb (xs:List Dv)(d:Nat):Bool:=match xs[d]? with|some x=> !x.gone|none=>false
theorem jhc {d:Nat}{x:Dv}(h:xs[d]? =some x):jhb xs d= !x.gone:=by rw [jhb,h]
theorem Str.put (hl:xs.length=n)(ho:∀(d:Nat) (x:Dv),xs[d]? =some x->x.Ok∧x.n=N)(hk:1<=k)(hr:RefOk kd p g b.length (44*k))(hp:p<N):Str (jaS k n kd p g b xs) k n N kd p g b (jhb xs):=⟨by rw [jaS,jaw,hl],λ d x hx=>by
 have hd:=jaF hx;rw [jaS,jaw] at hd;have hy:xs[d]? =some (xs[d]):=List.getElem?_eq_getElem hd;rw [jaS,jaV hy,if_pos (by rw [<-hl];exact hd)] at hx;injection hx with hx
 rw [<-hx,jhc hy];exact Is13.write (ho d _ hy).1 (ho d _ hy).2 hp (jcr hk hr)⟩
theorem Str.flush (h:Str xs k n N kd p g b G)(hp:p<N):Str (jaL xs n) k n N kd p g b G:=h.each λ d x hx _=>(h.at_ d x hx).flush hp
theorem jcH (hl:xs.length=n)(ho:∀(d:Nat) (x:Dv),xs[d]? =some x->x.Ok):Idle (jaL xs n):=λ d x hx=>by
 have hd:=jaF hx;rw [jaL,jaw] at hd;have hy:xs[d]? =some (xs[d]):=List.getElem?_eq_getElem hd;rw [jaL,jaV hy,if_pos (by rw [<-hl];exact hd)] at hx;injection hx with hx
 rw [<-hx];exact jjw (ho d _ hy)
end
end
section
def jcI (k m s:Int):Prop:=1<=k∧1<=m∧k+m<=10∧1<=s∧s<=8
instance (k m s:Int):Decidable (jcI k m s):=by unfold jcI;infer_instance
theorem jic (w:World)(k m s:Int):Below w.heap.size w (w.alloc (.cells #[.int .i64 k, .int .i64 m, .int .i64 s] 23)):=(Below.refl _ _).alloc (Nat.le_refl _) _
theorem jjx (k m s:Int)(bk: -9223372036854775808<=k∧k<9223372036854775808)(bm: -9223372036854775808<=m∧m<9223372036854775808)(bs: -9223372036854775808<=s∧s<9223372036854775808)(w:World):
  Calls Tryz.prog 8 #[.agg #[.int .i64 k, .int .i64 m, .int .i64 s]] w λ e w' =>e= .returned (.bool (decide (jcI k m s)))∧Below w.heap.size w w':=by
 have hm:=λ w=>jpK k m bk bm w
 have Hb:=qH (jic w k m s)
 by_cases h1:1<=k∧1<=m∧k+m<=255
 ·rw [jhy h1] at hm
  by_cases h2:k+m<=10
  ·by_cases h3:1<=s
   ·by_cases h4:s<=8
    all_goals
     first
     |rw [decide_eq_true (show jcI k m s from ⟨h1.1,h1.2.1,h2,h3,h4⟩)]
     |rw [decide_eq_false (show ¬jcI k m s from λ h=>h4 h.2.2.2.2)]
     go_enter Tryz.func8,Tryz.ntmps8;go_wp2_with fail;refine(hm _).mono ?_;rintro e w1 ⟨rfl,rfl⟩;go_wp2_with fail;go_ret;refine⟨?_,Hb.out⟩
     first
     |rfl
     |(simp [h4];done)
   ·rw [decide_eq_false (show ¬jcI k m s from λ h=>h3 h.2.2.2.1)]
    go_enter Tryz.func8,Tryz.ntmps8;go_wp2_with fail;refine(hm _).mono ?_;rintro e w1 ⟨rfl,rfl⟩;go_wp2_with fail;go_ret;exact⟨rfl,Hb.out⟩
  ·rw [decide_eq_false (show ¬jcI k m s from λ h=>h2 h.2.2.1)]
   go_enter Tryz.func8,Tryz.ntmps8;go_wp2_with fail;refine(hm _).mono ?_;rintro e w1 ⟨rfl,rfl⟩;go_wp2_with fail;go_ret;exact⟨rfl,Hb.out⟩
 ·rw [jdI h1] at hm
  rw [decide_eq_false (show ¬jcI k m s from λ h=>h1 ⟨h.1,h.2.1,by have:=h.2.2.1;omega⟩)];go_enter Tryz.func8,Tryz.ntmps8;go_wp2_with fail;refine(hm _).mono ?_;rintro e w1 ⟨rfl,rfl⟩;go_wp2_with fail;go_ret;exact⟨rfl,Hb.out⟩
section
variable {Rep:World->(Nat->Prop)->Nat->Dv->Prop}
def jnW (Rep:World->(Nat->Prop)->Nat->Dv->Prop)(k m s:Nat)(w:World)(e:Ending)(w':World):Prop:=
 ∃A S C F T,e= .returned (.tuple #[.pointer (some ⟨A,0,none⟩), .pointer (some ⟨C,0,none⟩)])∧AP Rep w' S A (List.replicate (k+m) (Dv.new s))∧Cod w' C k m F T∧Below w.heap.size w w' ∧
  (∀b,S b->w.heap.size<=b∧b<C∧b<F∧b<T)∧w.heap.size<=C∧w.heap.size<=F∧w.heap.size<=T
theorem jgx (DK:DrvK Rep)(k m s:Nat)(hk:1<=k)(hm:1<=m)(hn:k+m<=255)(hs1:1<=s)(hs2:s<=600)(w:World):
  Calls Tryz.prog 11 #[.agg #[.int .i64 (k:Int), .int .i64 (m:Int), .int .i64 (s:Int)]] w (jnW Rep k m s w):=by
 have Hb:=qH (jic w (k:Int) (m:Int) (s:Int));have hnew:=heap_alloc_new w (.cells #[.int .i64 (k:Int), .int .i64 (m:Int), .int .i64 (s:Int)] 23);have hsz:(w.alloc (.cells #[.int .i64 (k:Int), .int .i64 (m:Int), .int .i64 (s:Int)] 23)).heap.size=w.heap.size+1:=by simp
 have Hnew:=qH hnew;have Hsz:=qH hsz;clear hnew hsz;go_enter Tryz.func11,Tryz.ntmps11;go_wp2_with fail;obtain⟨wl,hwl⟩:∃x,x=w.alloc (.cells #[.int .i64 (k:Int), .int .i64 (m:Int), .int .i64 (s:Int)] 23):=⟨_,rfl⟩;rw [<-hwl] at Hb Hnew Hsz ⊢;clear hwl;have Hc0:=qH (show wl.drew.cell? ⟨w.heap.size,0,none⟩=some (.int .i64 (k:Int)) by rw [cell_of_row _ _ _ _ _ _ (show wl.drew.heap[w.heap.size]? =_ from Hnew.out)];rfl);have Hc1:=qH (show wl.drew.cell? ⟨w.heap.size,1,none⟩=some (.int .i64 (m:Int)) by rw [cell_of_row _ _ _ _ _ _ (show wl.drew.heap[w.heap.size]? =_ from Hnew.out)];rfl);have Hc2:=qH (show wl.drew.cell? ⟨w.heap.size,2,none⟩=some (.int .i64 (s:Int)) by rw [cell_of_row _ _ _ _ _ _ (show wl.drew.heap[w.heap.size]? =_ from Hnew.out)];rfl);refine wp_region_held_drew (S:=λ w' =>Fr (λ b=>w.heap.size<b) wl.drew w') (by kernel_rfl) (Fr.refl _ _) (λ hHeld=> ?_);clear hHeld
 refine tA 0 (some 4) rfl (Fr.refl _ _) ?_;refine tL 1 (some 5) (v:= ?vg1) rfl ?yg1 (Fr.refl _ _) ?rg1
 case yg1=>
  intro wq hSw
  (try dsimp only at hSw)
  have hq:=hSw.cell_some Hc0.out (by simp);go_simp<;>with_reducible rfl
 try simp only [Act.put,sA,sB,sC]
 refine tA 2 (some 6) rfl (Fr.refl _ _) ?_;refine tL 3 (some 7) (v:= ?vg3) rfl ?yg3 (Fr.refl _ _) ?rg3
 case yg3=>
  intro wq hSw
  (try dsimp only at hSw)
  have hq:=hSw.cell_some Hc1.out (by simp);go_simp<;>with_reducible rfl
 try simp only [Act.put,sA,sB,sC]
 refine tA 4 (some 8) rfl (Fr.refl _ _) ?_;refine tA 5 (some 9) rfl (Fr.refl _ _) ?_;refine tL 6 (some 10) (v:= ?vg6) rfl ?yg6 (Fr.refl _ _) ?rg6
 case yg6=>
  intro wq hSw
  (try dsimp only at hSw)
  have hq:=hSw.cell_some Hc2.out (by simp);go_simp<;>with_reducible rfl
 try simp only [Act.put,sA,sB,sC]
 refine tA 9 (some 13) rfl (Fr.refl _ _) ?_;refine tL 10 (some 14) (v:= ?vg10) rfl ?yg10 (Fr.refl _ _) ?rg10
 case yg10=>
  intro wq hSw
  (try dsimp only at hSw)
  have hq:=hSw.cell_some Hc0.out (by simp);go_simp<;>with_reducible rfl
 try simp only [Act.put,sA,sB,sC]
 refine tA 11 (some 15) rfl (Fr.refl _ _) ?_;refine tL 12 (some 16) (v:= ?vg12) rfl ?yg12 (Fr.refl _ _) ?rg12
 case yg12=>
  intro wq hSw
  (try dsimp only at hSw)
  have hq:=hSw.cell_some Hc1.out (by simp);go_simp<;>with_reducible rfl
 try simp only [Act.put,sA,sB,sC]
 refine rW 7 (some 11) rfl λ K hK=> ?_
 go_simp;have hh:=jnh DK (k+m) s wl.drew (by omega) (by omega) hs1 hs2;rw [show (((k+m:Nat)):Int)=IntKind.i64.wrap ((k:Int) +(m:Int)) from by rw [IntKind.wrap_i64];omega] at hh;refine hh.mono ?_;clear hh;rintro e wa ⟨A,S1,rfl,ha,hb,hS1⟩;have hfr:Fr (λ b=>w.heap.size<b) wl.drew wa:=Fr.of_below hb;have Ba:=qH ((Hb.out.trans ((Below.drew (Below.refl _ _)).mono Hb.out.size)).trans (hb.mono (show w.heap.size<=wl.drew.heap.size from Hb.out.size)));have PWa:=qH ha;have Sa:=qH (show ∀b,S1 b->w.heap.size<b∧b<wa.heap.size from λ b h=>⟨by have:=hS1 b h;have e:wl.drew.heap.size=w.heap.size+1:=Hsz.out;omega,ha.old h⟩);have Za:=qH (show w.heap.size<wa.heap.size from by have:=hb.size;have e:wl.drew.heap.size=w.heap.size+1:=Hsz.out;omega);clear ha hb hS1;go_wp2_with fail;refine hK.out _ _ hfr (λ hHeld=> ?_);clear hK K hHeld
 try simp only [Act.put,sA,sB,sC]
 refine jac (S':=λ w' =>Fr (λ b=>w.heap.size<b) wa w') (λ w' h=>hfr.trans h) ?_;clear hfr;refine rW 8 (some 12) rfl λ K hK=> ?_
 go_simp;refine(jqH wa).mono ?_;rintro e wb1 ⟨rfl,hf,hb⟩;have hfr:Fr (λ b=>w.heap.size<b) wa wb1:=Fr.of_below hb;have Bb:=qH (Ba.out.trans (hb.mono Ba.out.size));have Pb:=qH (PWa.out.later DK.lay hb);have Fb:=qH hf;have Zb:=qH (show wa.heap.size<=wb1.heap.size from hb.size);obtain⟨T,hT⟩:∃T,T=wa.heap.size:=⟨_,rfl⟩;rw [<-hT] at Fb Sa Za Zb ⊢;clear hf hb hT;go_wp2_with fail;refine hK.out _ _ hfr (λ hHeld=> ?_);clear hK K hHeld
 try simp only [Act.put,sA,sB,sC]
 refine jac (S':=λ w' =>Fr (λ b=>w.heap.size<b) wb1 w') (λ w' h=>hfr.trans h) ?_;clear hfr;refine rW 13 (some 17) rfl λ K hK=> ?_
 go_simp;refine(jo5 (T+1) T (k:Int) (m:Int) (by omega) (by omega) wb1 Fb.out).mono ?_;rintro e wc ⟨h|⟨K,M,C,hK1,hM1,rfl,hc,hC⟩,h1,hf⟩
 ·exfalso
  have h:=h.1;rw [jhy (by omega)] at h
  cases h
 obtain rfl:k=K:=by omega
 obtain rfl:m=M:=by omega
 have hfr:Fr (λ b=>w.heap.size<b) wb1 wc:=hf.mono (λ b hb=>by have hb:b=T:=hb;have:=Za.out;show w.heap.size<b;omega);have Bc:=qH (Bb.out.trans (hf.below Bb.out.size (λ b hb=>by have hb:b=T:=hb;have:=Za.out;omega)));have Pc:=qH (Pb.out.fr DK.lay hf (λ b hb h=>by have h:b=T:=h;have:=(Sa.out b hb).2;omega));have Cc:=qH hc;have Zc:=qH hC;clear hc hC h1 hf hK1 hM1;go_wp2_with fail;refine hK.out _ _ hfr (λ hHeld=> ?_);clear hK K hHeld
 try simp only [Act.put,sA,sB,sC]
 refine jac (S':=λ w' =>Fr (λ b=>w.heap.size<b) wc w') (λ w' h=>hfr.trans h) ?_;clear hfr;refine tA 14 (some 2) rfl (Fr.refl _ _) ?_;refine tA 15 (some 3) rfl (Fr.refl _ _) ?_;refine tD ?_;go_wp2_with fail;go_ret2;exact⟨A,S1,C,T+1,T,rfl,Pc.out,Cc.out,Bc.out,λ b hb=>⟨by have:=(Sa.out b hb).1;omega,by have:=(Sa.out b hb).2;have:=Zb.out;have:=Zc.out;omega,by have:=(Sa.out b hb).2;omega,by have:=(Sa.out b hb).2;omega⟩,by have:=Zc.out;have:=Zb.out;have:=Za.out;omega,by have:=Za.out;omega,by have:=Za.out;omega⟩
end
end
section
structure Ap13 (S:Nat->Prop)(C F T:Nat):Prop where
 c:¬S C
 f:¬S F
 t:¬S T
theorem Ap13.next {S S':Nat->Prop}{C F T:Nat}{w w':World}(h:Ap13 S C F T)(hn:Nxt S S' w w')(hC:C<w.heap.size)(hF:F<w.heap.size)(hT:T<w.heap.size):Ap13 S' C F T:=
 ⟨λ q=>(hn.2 _ q).elim h.c (λ r=>by omega),λ q=>(hn.2 _ q).elim h.f (λ r=>by omega),λ q=>(hn.2 _ q).elim h.t (λ r=>by omega)⟩
structure Ac13 (Rep:World->(Nat->Prop)->Nat->Dv->Prop)(w:World)(S:Nat->Prop)(A C k m F T N:Nat)(xs:List Dv):Prop where
 a:AP Rep w S A xs
 c:Cod w C k m F T
 ap:Ap13 S C F T
 len:xs.length=k+m
 n:∀(d:Nat) (x:Dv),xs[d]? =some x->x.Ok∧x.n=N
 wl:Wl 1000 xs
 nt:Nt w
 ng:¬S 0
theorem Nt.lt13 {w:World}(h:Nt w):0<w.heap.size:=by
 obtain⟨t,fr,hb⟩:=h.block;exact block_lt hb
theorem Nt.fr13 {w w':World}{S:Nat->Prop}(h:Nt w)(hf:Fr S w w')(hS:¬S 0):Nt w':=by
 have hl:=h.lt13;have hb:=hf.block _ hl hS;unfold Nt World.var? at *;rw [jfI] at *;simp only [Option.bind_some] at *;rw [hb];exact h
section
variable {Rep:World->(Nat->Prop)->Nat->Dv->Prop}{w w':World}{S S':Nat->Prop}{A C k m F T N:Nat}{xs ys:List Dv}
theorem Ac13.later (DK:DrvK Rep)(h:Ac13 Rep w S A C k m F T N xs)(hb:Below w.heap.size w w'):Ac13 Rep w' S A C k m F T N xs:=⟨h.a.later DK.lay hb,h.c.later hb,h.ap,h.len,h.n,h.wl,h.nt.keep hb,h.ng⟩
theorem Cod.fr {U:Nat->Prop}(h:Cod w C k m F T)(hf:Fr U w w')(h1:¬U C)(h2:¬U F)(h3:¬U T):Cod w' C k m F T:=⟨hf.row_some h.row h1,h.fld.fr hf h2 h3,h.k1,h.m1,h.n255⟩
theorem Ac13.mut (h:Ac13 Rep w S A C k m F T N xs)(hm:MutA Rep S A ys w w')(hl:ys.length=xs.length)(hn:∀(d:Nat) (x:Dv),ys[d]? =some x->x.Ok∧x.n=N)(hw:Wl 1000 ys):∃S',Ac13 Rep w' S' A C k m F T N ys∧Nxt S S' w w':=by
 obtain⟨S',ha,hx⟩:=hm;have hC:C<w.heap.size:=block_lt h.c.row;have hF:F<w.heap.size:=World.block_lt_of_cell? w _ h.c.fld.cell;have hT:T<w.heap.size:=h.c.fld.fld.ltT;exact⟨S',⟨ha,h.c.fr hx.1 h.ap.c h.ap.f h.ap.t,h.ap.next hx hC hF hT,hl.trans h.len,hn,hw,h.nt.fr13 hx.1 h.ng,λ q=>(hx.2 _ q).elim h.ng (λ r=>by have:=h.nt.lt13;omega)⟩,hx⟩
structure Lc13 (Rep:World->(Nat->Prop)->Nat->Dv->Prop)(w0 w:World)(S:Nat->Prop)(A C k m F T N:Nat)(xs:List Dv):Prop where
 ac:Ac13 Rep w S A C k m F T N xs
 lo:∀b,S b->w0.heap.size<=b
 bel:Below w0.heap.size w0 w
variable {w0:World}
theorem Lc13.later (DK:DrvK Rep)(h:Lc13 Rep w0 w S A C k m F T N xs)(hb:Below w.heap.size w w'):Lc13 Rep w0 w' S A C k m F T N xs:=⟨h.ac.later DK hb,h.lo,h.bel.trans (hb.mono h.bel.size)⟩
theorem Lc13.mut (h:Lc13 Rep w0 w S A C k m F T N xs)(hm:MutA Rep S A ys w w')(hl:ys.length=xs.length)(hn:∀(d:Nat) (x:Dv),ys[d]? =some x->x.Ok∧x.n=N)(hw:Wl 1000 ys):∃S',Lc13 Rep w0 w' S' A C k m F T N ys∧Nxt S S' w w':=by
 obtain⟨S',h1,h2⟩:=h.ac.mut hm hl hn hw;exact⟨S',⟨h1,λ b hb=>(h2.2 b hb).elim (h.lo b) (λ q=>by have:=h.bel.size;omega),h.bel.trans (h2.1.below h.bel.size h.lo)⟩,h2⟩
theorem Lc13.made {w:World}{k m s:Nat}{e:Ending}{w':World}(h:jnW Rep k m s w e w')(hb:Below w0.heap.size w0 w)(hN:Nt w):∃A S C F T,e= .returned (.tuple #[.pointer (some ⟨A,0,none⟩), .pointer (some ⟨C,0,none⟩)])∧Lc13 Rep w0 w' S A C k m F T s (List.replicate (k+m) (Dv.new s))∧(∀b,S b->w.heap.size<=b)∧Below w.heap.size w w':=by
 obtain⟨A,S,C,F,T,he,ha,hc,hbel,hS,_,_,_⟩:=h;refine⟨A,S,C,F,T,he,⟨⟨ha,hc,⟨λ q=> ?_,λ q=> ?_,λ q=> ?_⟩,List.length_replicate ..,λ d x hx=> ?_,λ d x hx=> ?_,hN.keep hbel,λ q=> ?_⟩,λ b hb' => ?_,hb.trans (hbel.mono hb.size)⟩,λ b hb' =>(hS b hb').1,hbel⟩
 ·have:=(hS _ q).2.1;omega
 ·have:=(hS _ q).2.2.1;omega
 ·have:=(hS _ q).2.2.2;omega
 ·rw [List.getElem?_replicate] at hx
  split at hx
  ·injection hx with hx;rw [<-hx];exact⟨Dv.new_ok s,Dv.new_n s⟩
  ·cases hx
 ·rw [Idle.new d x hx];exact Nat.zero_le _
 ·have:=(hS _ q).1;have:=hN.lt13;omega
 ·have:=(hS b hb').1;have:=hb.size;omega
theorem Wl.mono13 {c c':Nat}{xs:List Dv}(h:Wl c xs)(hk:c<=c'):Wl c' xs:=λ i x hx=>Nat.le_trans (h i x hx) hk
theorem jid (x:Dv)(z:Int)(l:List UInt8)(c:Nat)(h:x.wait.length<=c):(x.write z l).wait.length<=c+1:=by
 unfold Dv.write
 split
 ·exact Nat.le_succ_of_le h
 ·split
  ·rw [List.length_append,List.length_singleton];omega
  ·exact Nat.le_succ_of_le h
theorem jnX {kd:UInt8}{p g n c:Nat}{b:List UInt8}(h:Wl c xs):Wl (c+1) (jaS k n kd p g b xs):=λ i x hx=>by
 have hi:=jaF hx;rw [jaS,jaw] at hi;have hy:xs[i]? =some (xs[i]):=List.getElem?_eq_getElem hi;rw [jaS,jaV hy] at hx;injection hx with hx
 rw [<-hx]
 split
 ·exact jid _ _ _ c (h i _ hy)
 ·exact Nat.le_succ_of_le (h i _ hy)
end
end
section
def Rf13 (w:World)(B:Nat)(k p g:Int):Prop:=w.heap[B]? =some (.cells #[.int .u8 k, .int .i64 p, .int .u64 g] 109 (0,0))
theorem jlD (k p g:Int):(Tryz.prog.info? 109).map (·.size)=some (#[Value.int .u8 k, .int .i64 p, .int .u64 g]:Array Value).size:=by
 show _=some 3
 kernel_rfl
theorem jem {ρ:Operand->Value}{o:Oper}{x:Operand}{w:World}{B:Nat}{k p g:Int}(ho:o.op= .load 109 x)(hx:ρ x= .pointer (some ⟨B,0,none⟩))(h:Rf13 w B k p g):(execOp ρ o).run Tryz.prog w= .ok (.value (.agg #[.int .u8 k, .int .i64 p, .int .u64 g])) w:=by
 unfold execOp;simp only [ho,hx,Instr.loadAt,Instr.sureAddr,Sem.run_bind,Sem.run_pure,Result.andThen_ok,run_loadVar_row w B _ 109 #[.int .u8 k, .int .i64 p, .int .u64 g] (0,0) _ h Tryz.underlying109 rfl (jlD k p g)]
def Geo13 (w:World)(B:Nat)(k m s:Int):Prop:=w.heap[B]? =some (.cells #[.int .i64 k, .int .i64 m, .int .i64 s] 23 (0,0))
theorem jlE (k m s:Int):(Tryz.prog.info? 23).map (·.size)=some (#[Value.int .i64 k, .int .i64 m, .int .i64 s]:Array Value).size:=by
 show _=some 3
 kernel_rfl
theorem jdh {ρ:Operand->Value}{o:Oper}{x:Operand}{w:World}{B:Nat}{k m s:Int}(ho:o.op= .load 23 x)(hx:ρ x= .pointer (some ⟨B,0,none⟩))(h:Geo13 w B k m s):(execOp ρ o).run Tryz.prog w= .ok (.value (.agg #[.int .i64 k, .int .i64 m, .int .i64 s])) w:=by
 unfold execOp;simp only [ho,hx,Instr.loadAt,Instr.sureAddr,Sem.run_bind,Sem.run_pure,Result.andThen_ok,run_loadVar_row w B _ 23 #[.int .i64 k, .int .i64 m, .int .i64 s] (0,0) _ h Tryz.underlying23 rfl (jlE k m s)]
theorem Geo13.c0 {w:World}{B:Nat}{k m s:Int}(h:Geo13 w B k m s):w.cell? ⟨B,0,none⟩=some (.int .i64 k):=by rw [cell_of_row _ _ _ _ _ _ h];rfl
theorem Geo13.c1 {w:World}{B:Nat}{k m s:Int}(h:Geo13 w B k m s):w.cell? ⟨B,1,none⟩=some (.int .i64 m):=by rw [cell_of_row _ _ _ _ _ _ h];rfl
theorem Geo13.c2 {w:World}{B:Nat}{k m s:Int}(h:Geo13 w B k m s):w.cell? ⟨B,2,none⟩=some (.int .i64 s):=by rw [cell_of_row _ _ _ _ _ _ h];rfl
theorem jlF {xs:List Dv}(h:∀(d:Nat) (x:Dv),xs[d]? =some x->x.gone=false):jkf xs xs.length=xs.length:=by
 unfold jkf jdS;rw [List.take_length,List.count_eq_length.2 (λ z hz=> ?_),List.length_map];obtain⟨x,hx,rfl⟩:=List.mem_map.1 hz;obtain⟨d,hd,rfl⟩:=List.getElem_of_mem hx;rw [Dv.flushX,if_neg (by rw [h d _ (List.getElem?_eq_getElem hd)];decide)]
section
variable {Rep:World->(Nat->Prop)->Nat->Dv->Prop}
end
end
end
section
def PF:Nat->(UInt8->UInt8)->Prop
 |0,f=>∀x,f x=0
 |n+1,f=>∃(c:UInt8) (g:UInt8->UInt8),PF n g∧∀x,f x=c ^^^ gm x (g x)
theorem PF.congr:∀{n:Nat} {f g:UInt8->UInt8},PF n f->(∀x,g x=f x)->PF n g
 |0,_,_,h,e=>λ x=>by rw [e,h x]
 |_+1,_,_,⟨c,q,hq,h⟩,e=>⟨c,q,hq,λ x=>by rw [e,h x]⟩
theorem PF.none:∀n,PF n (λ _=>0)
 |0=>λ _=>rfl
 |n+1=>⟨0,λ _=>0,PF.none n,λ x=>by rw [jaD,ux0]⟩
theorem PF.add:∀{n:Nat} {f g:UInt8->UInt8},PF n f->PF n g->PF n (λ x=>f x ^^^ g x)
 |0,_,_,h,k=>λ x=>by dsimp only;rw [h x,k x,ux0]
 |_+1,_,_,⟨c,p,hp,h⟩,⟨d,q,hq,k⟩=>⟨c ^^^ d,λ x=>p x ^^^ q x,hp.add hq,λ x=>by dsimp only;rw [h x,k x,uxor4,jgf]⟩
theorem PF.scale (s:UInt8):∀{n:Nat} {f:UInt8->UInt8},PF n f->PF n (λ x=>gm s (f x))
 |0,_,h=>λ x=>by dsimp only;rw [h x,jaD]
 |_+1,_,⟨c,p,hp,h⟩=>⟨gm s c,λ x=>gm s (p x),hp.scale s,λ x=>by dsimp only;rw [h x,jgf,<-jav,jbl s x,jav]⟩
theorem PF.more:∀{n:Nat} {f:UInt8->UInt8},PF n f->PF (n+1) f
 |0,_,h=>⟨0,λ _=>0,λ _=>rfl,λ x=>by rw [h x,jaD,ux0]⟩
 |_+1,_,⟨c,p,hp,h⟩=>⟨c,p,hp.more,h⟩
theorem PF.times {n:Nat}{f:UInt8->UInt8}(y:UInt8)(h:PF n f):PF (n+1) (λ x=>gm (x ^^^ y) (f x)):=by
 have h1:PF (n+1) (λ x=>gm x (f x)):=⟨0,f,h,λ x=>by rw [uzx]⟩;exact(h1.add (h.more.scale y)).congr λ x=>jjY _ _ _
theorem PF.parted (a:UInt8):∀{n:Nat} {f:UInt8->UInt8},PF (n+1) f->∃q,PF n q∧∀x,f x=f a ^^^ gm (x ^^^ a) (q x)
 |0,f,⟨c,g,hg,h⟩=>⟨λ _=>0,λ _=>rfl,λ x=>by rw [h x,h a,hg x,hg a,jaD,jaD,jaD,ux0,ux0]⟩
 |n+1,f,⟨c,g,hg,h⟩=>by
  obtain⟨q,hq,e⟩:=hg.parted a;refine⟨λ x=>g a ^^^ gm x (q x),⟨g a,q,hq,λ _=>rfl⟩,λ x=> ?_⟩;rw [h x,h a,e x];have e1:gm x (gm (x ^^^ a) (q x))=gm (x ^^^ a) (gm x (q x)):=by rw [<-jav,jbl x,jav]
  rw [jgf,jgf,e1,jjY x a (g a)]
  generalize gm (x ^^^ a) (gm x (q x))=u
  generalize gm x (g a)=v
  generalize gm a (g a)=w
  rw [UInt8.xor_assoc c w,<-UInt8.xor_assoc w,<-UInt8.xor_assoc w,UInt8.xor_comm w v,je5]
theorem PF.roots:∀{n:Nat} {f:UInt8->UInt8} (r:Nat->UInt8),PF n f->(∀i,i<n->∀j,j<i->r i≠r j)->(∀i,i<n->f (r i)=0)->∀x,f x=0
 |0,_,_,h,_,_=>h
 |n+1,f,r,h,hd,hr=>by
  obtain⟨q,hq,e⟩:=h.parted (r n);have h0:∀x,f x=gm (x ^^^ r n) (q x):=λ x=>by rw [e x,hr n (by omega),uzx]
  have hz:=hq.roots r (λ i hi j hj=>hd i (by omega) j hj) (λ i hi=>by
   have:=hr i (by omega);rw [h0] at this;refine(jc9 this).resolve_left λ hx=> ?_
   exact hd n (by omega) i hi (jma hx).symm)
  intro x;rw [h0,hz x,jaD]
def pr (y:Nat->UInt8)(j:Nat):Nat->UInt8->UInt8
 |0,_=>1
 |k+1,x=>if k=j then pr y j k x else gm (x ^^^ y k) (pr y j k x)
def jie (y:Nat->UInt8):Nat->UInt8->UInt8
 |0,_=>1
 |k+1,x=>gm (x ^^^ y k) (jie y k x)
theorem pr_pf (y:Nat->UInt8)(j:Nat):∀k,PF (if j<k then k else k+1) (pr y j k)
 |0=>⟨1,λ _=>0,λ _=>rfl,λ x=>by rw [jaD,ux0];rfl⟩
 |k+1=>by
  have ih:=pr_pf y j k
  by_cases h:k=j
  ·subst h
   rw [if_neg (Nat.lt_irrefl _)] at ih;rw [if_pos (by omega)];exact ih.congr λ x=>by rw [pr,if_pos rfl]
  ·by_cases h1:j<k
   ·rw [if_pos h1] at ih
    rw [if_pos (by omega)];exact(ih.times (y k)).congr λ x=>by rw [pr,if_neg h]
   ·rw [if_neg h1] at ih
    rw [if_neg (by omega)];exact(ih.times (y k)).congr λ x=>by rw [pr,if_neg h]
theorem jqn (y:Nat->UInt8)(j:Nat)(x:UInt8):∀k,k<=j->pr y j k x=jie y k x
 |0,_=>rfl
 |k+1,h=>by rw [pr,if_neg (by omega),jie,jqn y j x k (by omega)]
theorem jnY (y:Nat->UInt8)(j:Nat)(x:UInt8):∀k,j<k->jie y k x=gm (x ^^^ y j) (pr y j k x)
 |0,h=>absurd h (by omega)
 |k+1,h=>by
  by_cases hk:k=j
  ·subst hk
   rw [jie,pr,if_pos rfl,jqn y k x k (Nat.le_refl _)]
  ·rw [jie,pr,if_neg hk,jnY y j x k (by omega),<-jav,jbl (x ^^^ y k),jav]
theorem pr_ne (y:Nat->UInt8)(j:Nat)(x:UInt8):∀k,(∀l,l<k->l≠j->x≠y l)->pr y j k x≠0
 |0,_=>(by decide:(1:UInt8)≠0)
 |k+1,h=>by
  have ih:=pr_ne y j x k (λ l hl hn=>h l (by omega) hn);rw [pr]
  split
  ·exact ih
  ·exact gm_ne (λ e=>h k (by omega) (by assumption) (jma e)) ih
theorem pr_at (y:Nat->UInt8)(j:Nat)(x:UInt8):∀k l,l<k->l≠j->x=y l->pr y j k x=0
 |0,_,h,_,_=>absurd h (by omega)
 |k+1,l,h,hn,e=>by
  rw [pr]
  by_cases hl:l=k
  ·subst hl
   rw [if_neg hn,e,uxx,ja1]
  ·have ih:=pr_at y j x k l (by omega) hn e
   split
   ·exact ih
   ·rw [ih,jaD]
theorem xs_pf (n m:Nat)(F:Nat->UInt8->UInt8)(h:∀j,j<m->PF n (F j)):PF n (λ x=>xs m (λ j=>F j x)):=by
 induction m with
 |zero=>exact PF.none n
 |succ m ih=>exact(ih λ j hj=>h j (by omega)).add (h m (by omega))
end
section
open Go.RowKit Go.Proofs
open Go.RowKit Go.Proofs
open Go.RowKit Go.Proofs
open Go.RowKit Go.Proofs
open Go.RowKit Go.Proofs
open Go.RowKit Go.Proofs
section
theorem jhd {a b:Nat}(ha:a<256)(hb:b<256)(h:a≠b):UInt8.ofNat a≠UInt8.ofNat b:=λ e=>h (jfp ha hb e)
theorem jrt {k:Nat}{l:Nat->Nat}(hk:k<=256)(hl:∀a,a<k->l a<256)(hd:∀i,i<k->∀j,j<i->l i≠l j):Inj k (λ a j=>facB k (l a) j):=by
 intro v hv j hj;have hpf:PF k (λ z=>xs k (λ j=>gm (v j) (pr (λ j=>UInt8.ofNat j) j k z))):=xs_pf k k _ (λ j hj=>by
  have:=pr_pf (λ j=>UInt8.ofNat j) j k;rw [if_pos hj] at this;exact this.scale (v j))
 have hone:∀j,j<k->xs k (λ i=>gm (v i) (pr (λ j=>UInt8.ofNat j) i k (UInt8.ofNat j)))=gm (v j) (pr (λ j=>UInt8.ofNat j) j k (UInt8.ofNat j)):=λ j hj=>
  jcf j k hj (λ i hi hn=>by rw [pr_at (λ j=>UInt8.ofNat j) i (UInt8.ofNat j) k j hj (λ e=>hn e.symm) rfl,jaD])
 have hz:=hpf.roots (λ a=>UInt8.ofNat (l a)) (λ i hi j hj=>jhd (hl i hi) (hl j (by omega)) (hd i hi j hj)) (λ a ha=>by
  have h0:xs k (λ j=>gm (facB k (l a) j) (v j))=0:=hv a ha
  show xs k (λ j=>gm (v j) (pr (λ j=>UInt8.ofNat j) j k (UInt8.ofNat (l a))))=0
  by_cases hla:l a<k
  ·rw [hone (l a) hla]
   have h1:=jcf (f:=λ j=>gm (facB k (l a) j) (v j)) (l a) k hla (λ i hi hn=>by
    show gm (facB k (l a) i) (v i)=0
    rw [facB,if_pos hla,if_neg (λ e=>hn e.symm),ja1])
   rw [h0] at h1;have h2:gm (facB k (l a) (l a)) (v (l a))=v (l a):=by rw [facB,if_pos hla,if_pos rfl,jbY]
   rw [show v (l a)=0 from by rw [<-h2];exact h1.symm,ja1]
  ·have h1:=congrArg (gm (jie (λ j=>UInt8.ofNat j) k (UInt8.ofNat (l a)))) h0
   rw [jaD,jmb] at h1;rw [<-h1]
   apply jaz
   intro i hi;have hne:UInt8.ofNat (l a) ^^^ UInt8.ofNat i≠0:=λ e=>jhd (hl a ha) (by omega) (show l a≠i by omega) (jma e)
   show gm (v i) (pr (λ j=>UInt8.ofNat j) i k (UInt8.ofNat (l a)))=gm (jie (λ j=>UInt8.ofNat j) k (UInt8.ofNat (l a))) (gm (facB k (l a) i) (v i))
   rw [facB,if_neg hla,jnY (λ j=>UInt8.ofNat j) i (UInt8.ofNat (l a)) k hi,<-jav,jbl (UInt8.ofNat (l a) ^^^ UInt8.ofNat i),jav (pr (λ j=>UInt8.ofNat j) i k (UInt8.ofNat (l a))),jee _ hne,jdm,jbl])
 have h2:=hz (UInt8.ofNat j);rw [hone j hj] at h2;exact(jc9 h2).resolve_right (pr_ne (λ j=>UInt8.ofNat j) j (UInt8.ofNat j) k (λ i hi hn=>jhd (by omega) (by omega) (λ e=>hn e.symm)))
theorem jjy {k:Nat}{l:Nat->Nat}(hk:k<=256)(hl:∀a,a<k->l a<256)(hd:∀i,i<k->∀j,j<i->l i≠l j):∃X:Mx,Alike k k (mm k X (λ a j=>facB k (l a) j)) one∧Alike k k (mm k (λ a j=>facB k (l a) j) X) one:=by
 obtain⟨X,hX⟩:=jhu (jrt hk hl hd);exact⟨X,jeB hX,hX⟩
end
section
def Sol (k W:Nat)(X M:Mx):Prop:=∀a,a<k->∀p,p<W->xs k (λ b=>gm (M a b) (X b p))=M a (k+p)
end
section
end
section
section
variable {w w':World}{g k W:Nat}{M:Mx}
end
end
section
def jd3 (rs:List (List UInt8)):Bool:=decide (∀a,a<(jae rs rs.length).length->(rs.getD ((jae rs rs.length).getD a 0) []).length=(rs.getD ((jae rs rs.length).getD 0 0) []).length)
def jaT (k m:Nat)(rs:List (List UInt8)):Int:=if rs.length≠k+m then 2 else if jd3 rs=false then 2 else if (jae rs rs.length).length<k then 60 else 0
theorem jc5 {rs:List (List UInt8)}{j a:Nat}(h:a<(jae rs j).length):(jae rs j).getD a 0<j:=by
 have hm:(jae rs j)[a]∈(List.range j).filter (λ i=>decide (0<(rs.getD i []).length)):=List.getElem_mem h;rw [List.mem_filter,List.mem_range] at hm;rw [show (jae rs j).getD a 0=(jae rs j)[a] from by simp [h]];exact hm.1
end
section
end
end
end Go.Proofs.YtmhejbihdghhaaaGreatDoor

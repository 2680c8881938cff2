/-
  The contract of the document's solve of layer 6
-/
import Derived.Test.YtmhejbihdghhaaaGreatDoorQan
import Derived.Test.YtmhejbihdghhaaaGreatDoorHg
import Derived.Deep.CutBlock
namespace Go.Proofs.YtmhejbihdghhaaaGreatDoor
set_option linter.unusedVariables false
open Go.RowKit Go.Proofs
open Go.RowKit Go.Proofs
open Go.RowKit Go.Proofs
open Go.RowKit Go.Proofs
open Go.RowKit Go.Proofs
set_option maxRecDepth 100000
set_option maxHeartbeats 400000
section
end
section
def eqM (k:Nat)(rs:List (List UInt8))(t:List Nat):Mx:=λ a c=>if c<k then facB k (t.getD a 0) c else(rs.getD (t.getD a 0) []).getD (c-k) 0
def solD (k:Nat)(X:Mx)(rs:List (List UInt8))(t:List Nat):Mx:=λ j p=>xs k λ a=>gm (X j a) ((rs.getD (t.getD a 0) []).getD p 0)
def dataL (k W:Nat)(D:Mx):List (List UInt8):=(List.range k).map λ j=>rowL W (D j)
theorem mul_sol {k:Nat}{X:Mx}{rs:List (List UInt8)}{t:List Nat}(f:Nat->UInt8)(p:Nat):(xs k λ j=>gm (f j) (solD k X rs t j p))=xs k λ a=>gm (xs k λ j=>gm (f j) (X j a)) ((rs.getD (t.getD a 0) []).getD p 0):=by
 have h:=congrFun (congrFun (mm_assoc k k (λ _=>f) X (λ a q=>(rs.getD (t.getD a 0) []).getD q 0)) 0) p;exact h.symm
theorem sol_of {k W:Nat}{X:Mx}{rs:List (List UInt8)}{t:List Nat}(hX:Alike k k (mm k X (facM k t)) one):Sol k W (solD k X rs t) (eqM k rs t):=by
 intro a ha p hp;have e1:(xs k λ b=>gm (eqM k rs t a b) (solD k X rs t b p))=xs k λ b=>gm (facB k (t.getD a 0) b) (solD k X rs t b p):=xs_congr k λ b hb=>by rw [eqM,if_pos hb]
 rw [e1,mul_sol];have hb:=inverse_both hX;have e2:(xs k λ a' =>gm (xs k λ j=>gm (facB k (t.getD a 0) j) (X j a')) ((rs.getD (t.getD a' 0) []).getD p 0))=xs k λ a' =>gm (one a a') ((rs.getD (t.getD a' 0) []).getD p 0):=xs_congr k λ a' ha' =>by
  rw [show (xs k λ j=>gm (facB k (t.getD a 0) j) (X j a'))=one a a' from hb a ha a' ha']
 rw [e2,xs_one a k ha (λ i hi hne=>by rw [one,if_neg (λ e=>hne e.symm),zero_gm]),one,if_pos rfl,one_gm,eqM,if_neg (by omega),show k+p-k=p from by omega]
theorem rightX_ok {k m:Nat}{rs:List (List UInt8)}(h:rightX k m rs=0):rs.length=k+m∧levelT rs=true∧k<=(thereL rs rs.length).length:=by
 unfold rightX at h
 by_cases h1:rs.length≠k+m
 ·rw [if_pos h1] at h;exact absurd h (by decide)
 ·rw [if_neg h1] at h
  by_cases h2:levelT rs=false
  ·rw [if_pos h2] at h;exact absurd h (by decide)
  ·rw [if_neg h2] at h
   by_cases h3:(thereL rs rs.length).length<k
   ·rw [if_pos h3] at h;exact absurd h (by decide)
   ·exact⟨Decidable.not_not.1 h1,by simpa using h2,by omega⟩
end
section
theorem dataL_length (k W:Nat)(D:Mx):(dataL k W D).length=k:=by simp [dataL]
theorem dataL_getD (k W:Nat)(D:Mx)(j:Nat)(h:j<k):(dataL k W D).getD j []=rowL W (D j):=by simp [dataL,h]
theorem dataL_level (k W:Nat)(D:Mx):levelB (dataL k W D)=true:=decide_eq_true λ j hj=>by
 rw [dataL_length] at hj;rw [dataL_getD _ _ _ _ hj,dataL_getD _ _ _ _ (by omega),rowL_length,rowL_length]
theorem shard_dataL (k W:Nat)(D:Mx)(h1:1<=k)(x:Nat):shard k (dataL k W D) x=rowL W λ p=>xs k λ j=>gm (facB k x j) (D j p):=by
 rw [shard,dataL_getD _ _ _ _ (by omega),rowL_length,sumR]
 apply rowL_congr
 intro p hp
 apply xs_congr
 intro j hj;rw [rowC_getD _ _ _ hj,dataL_getD _ _ _ _ hj,rowL_getD _ _ _ hp]
theorem makeL_shard (k:Nat)(X:Mx)(rs:List (List UInt8))(T:List Nat)(W x:Nat)(h1:1<=k)(hT:T.length=k):makeL k X rs T W x=shard k (dataL k W (solD k X rs T)) x:=by
 rw [shard_dataL _ _ _ h1,makeL,sumR]
 apply rowL_congr
 intro p hp;rw [mul_sol]
 apply xs_congr
 intro j hj;rw [planL,rowL_getD _ _ _ hj,pick_getD _ _ _ (by omega)]
theorem there_at (rs:List (List UInt8)){n i:Nat}(hi:i<n)(hne:(rs.getD i []).length≠0):∃a,a<(thereL rs n).length∧(thereL rs n).getD a 0=i:=by
 have hm:i∈thereL rs n:=by
  unfold thereL;exact List.mem_filter.2 ⟨List.mem_range.2 hi,decide_eq_true (by omega)⟩
 obtain⟨a,ha,e⟩:=List.mem_iff_getElem.1 hm;exact⟨a,ha,by simp [ha,e]⟩
theorem thereL_ge (rs:List (List UInt8))(n:Nat):∀a,a<(thereL rs n).length->a<=(thereL rs n).getD a 0
 |0,_=>Nat.zero_le _
 |a+1,h=>by
  have h1:=thereL_ge rs n a (by omega);have h2:=thereL_mono rs n (show a<a+1 by omega) h;omega
theorem there_data {k n W i:Nat}{X:Mx}{rs:List (List UInt8)}(h1:1<=k)(hX:Alike k k (mm k X (facM k ((thereL rs n).take k))) one)(hk:k<=(thereL rs n).length)(hkn:k<=n)
  (hw:∀a,a<k->(rs.getD (((thereL rs n).take k).getD a 0) []).length=W)(hi:i<k)(hne:(rs.getD i []).length≠0):rs.getD i []=rowL W (solD k X rs ((thereL rs n).take k) i):=by
 obtain⟨a,ha,hai⟩:=there_at rs (show i<n by omega) hne;have hak:a<k:=by
  have:=thereL_ge rs n a ha;omega
 have ht:((thereL rs n).take k).getD a 0=i:=by rw [take_getD hak,hai]
 have hl:=hw a hak;rw [ht] at hl;have hs:=sol_of (W:=W) (rs:=rs) hX
 apply List.ext_getElem
 ·rw [hl,rowL_length]
 ·intro p h2 h3
  have hp:p<W:=by omega
  have e:=hs a hak p hp;have e1:eqM k rs ((thereL rs n).take k) a (k+p)=(rs.getD i [])[p]:=by
   rw [eqM,if_neg (by omega),ht,show k+p-k=p from by omega,List.getD_eq_getElem?_getD,List.getElem?_eq_getElem h2,Option.getD_some]
  have e2:(xs k λ b=>gm (eqM k rs ((thereL rs n).take k) a b) (solD k X rs ((thereL rs n).take k) b p))=solD k X rs ((thereL rs n).take k) i p:=by
   rw [xs_one i k hi (λ b hb hbi=>by rw [eqM,if_pos hb,ht,facB,if_pos hi,if_neg (λ e=>hbi e.symm),zero_gm]),eqM,if_pos hi,ht,facB,if_pos hi,if_pos rfl,one_gm]
  rw [<-e1,<-e,e2];have:=rowL_get W (solD k X rs ((thereL rs n).take k) i) p hp;rw [List.getElem?_eq_getElem h3] at this;injection this with this
  exact this.symm
theorem data_same {k n W:Nat}{X:Mx}{rs:List (List UInt8)}(h1:1<=k)(hX:Alike k k (mm k X (facM k ((thereL rs n).take k))) one)(hk:k<=(thereL rs n).length)(hl:rs.length=n)(hkn:k<=n)
  (hw:∀a,a<k->(rs.getD (((thereL rs n).take k).getD a 0) []).length=W):fillL (rs.take k) (makeL k X rs ((thereL rs n).take k) W) k=dataL k W (solD k X rs ((thereL rs n).take k)):=by
 have hrl:(rs.take k).length=k:=by rw [List.length_take];omega
 have hT:((thereL rs n).take k).length=k:=by rw [List.length_take];omega
 apply List.ext_getElem?
 intro i
 by_cases hi:i<k
 ·rw [fillL_get _ _ _ _ (by omega)]
  have e1:(rs.take k).getD i []=rs.getD i []:=by rw [List.getD_eq_getElem?_getD,List.getElem?_take,if_pos hi,List.getD_eq_getElem?_getD]
  have e2:(dataL k W (solD k X rs ((thereL rs n).take k)))[i]? =some (rowL W (solD k X rs ((thereL rs n).take k) i)):=by simp [dataL,hi]
  rw [e1,e2]
  by_cases hz:(rs.getD i []).length=0
  ·rw [if_pos ⟨hi,hz⟩,makeL_shard _ _ _ _ _ _ h1 hT,shard_data k _ i hi (dataL_length _ _ _) (dataL_level _ _ _),dataL_getD _ _ _ _ hi]
  ·rw [if_neg (λ h=>hz h.2),there_data h1 hX hk hkn hw hi hz]
 ·rw [List.getElem?_eq_none (by rw [fillL_length];omega),List.getElem?_eq_none (by rw [dataL_length];omega)]
end
section
theorem shard_getD (k:Nat)(ds:List (List UInt8))(i p:Nat)(hp:p<(ds.getD 0 []).length):(shard k ds i).getD p 0=xs k λ j=>gm (facB k i j) ((ds.getD j []).getD p 0):=by
 rw [List.getD_eq_getElem?_getD,shard_at k ds i p hp,Option.getD_some]
theorem solD_back {k W:Nat}{X:Mx}{ds rs:List (List UInt8)}{T:List Nat}(hW:(ds.getD 0 []).length=W)(hX:Alike k k (mm k X (facM k T)) one)(hrow:∀a,a<k->rs.getD (T.getD a 0) []=shard k ds (T.getD a 0))(j:Nat)(hj:j<k)(p:Nat)(hp:p<W):
  solD k X rs T j p=(ds.getD j []).getD p 0:=by
 have e1:solD k X rs T j p=xs k λ a=>gm (X j a) (xs k λ b=>gm (facM k T a b) ((ds.getD b []).getD p 0)):=xs_congr k λ a ha=>by
  rw [hrow a ha,shard_getD _ _ _ _ (by omega)]
  rfl
 rw [e1];have h:=congrFun (congrFun (mm_assoc k k X (facM k T) (λ b q=>(ds.getD b []).getD q 0)) j) p;have h':(xs k λ b=>gm (mm k X (facM k T) j b) ((ds.getD b []).getD p 0))=xs k λ a=>gm (X j a) (xs k λ b=>gm (facM k T a b) ((ds.getD b []).getD p 0)):=h
 rw [<-h',xs_one j k hj (λ b hb hne=>by rw [hX j hj b hb,one,if_neg (λ e=>hne e.symm),zero_gm]),hX j hj j hj,one,if_pos rfl,one_gm]
theorem data_back {k W:Nat}{X:Mx}{ds rs:List (List UInt8)}{T:List Nat}(hl:ds.length=k)(hlv:levelB ds=true)(hW:(ds.getD 0 []).length=W)(hX:Alike k k (mm k X (facM k T)) one)(hrow:∀a,a<k->rs.getD (T.getD a 0) []=shard k ds (T.getD a 0)):dataL k W (solD k X rs T)=ds:=by
 apply List.ext_getElem
 ·rw [dataL_length,hl]
 ·intro j h1 h2
  have hj:j<k:=by omega
  have e:(dataL k W (solD k X rs T))[j]=rowL W (solD k X rs T j):=by simp [dataL]
  have hlj:ds[j].length=W:=by
   have:=levelB_at hlv (j:=j) (by omega);rw [hW] at this
   simpa [h2] using this
  rw [e]
  apply List.ext_getElem
  ·rw [rowL_length,hlj]
  ·intro p h3 h4
   have e2:=rowL_get W (solD k X rs T j) p (by omega);rw [List.getElem?_eq_getElem h3] at e2;injection e2 with e2
   rw [e2,solD_back hW hX hrow j hj p (by omega)];simp [h2,h4]
end
section
theorem right_wid {k m n:Nat}{rs:List (List UInt8)}(h:rightX k m rs=0)(hl:rs.length=n):∀a,a<k->(rs.getD (((thereL rs n).take k).getD a 0) []).length=(rs.getD ((thereL rs n).getD 0 0) []).length:=by
 obtain⟨_,hlv,hkq⟩:=rightX_ok h;intro a ha;rw [take_getD ha];have:=(of_decide_eq_true hlv) a (by omega)
 rwa [hl] at this
theorem right_few {k m n:Nat}{rs:List (List UInt8)}(h:rightX k m rs=0)(hl:rs.length=n):n=k+m∧k<=(thereL rs n).length:=by
 obtain⟨h1,_,hkq⟩:=rightX_ok h;rw [hl] at h1 hkq;exact⟨h1,hkq⟩
theorem ddata_ok (C k m F T:Nat)(A:Option Addr)(n c:Nat)(rs:List (List UInt8))(w:World)(h:Cod w C k m F T)(hg:Gr w A n c rs)(hW:∀r∈rs,r.length<=1048576)(hn:n<=1048576):
  Calls Tryz.prog 154 #[.pointer (some ⟨C,0,none⟩), .slice A n c] w λ e w' =>
   ((rightX k m rs≠0∧e= .returned (.tuple #[.slice none 0 0, .int .i64 (rightX k m rs)]))∨
    (rightX k m rs=0∧∃(A':Option Addr) (c':Nat) (X:Mx),Alike k k (mm k X (facM k ((thereL rs n).take k))) one∧e= .returned (.tuple #[.slice A' k c', .int .i64 0])∧Gr w' A' k c' (dataL k (rs.getD ((thereL rs n).getD 0 0) []).length (solD k X rs ((thereL rs n).take k)))))∧Below w.heap.size w w':=by
 have h1:=h.k1;have hl:=hg.len;refine(ddata_any C k m F T A n c rs w h hg hW hn).mono ?_;rintro e w' ⟨hr,hb⟩;refine⟨?_,hb⟩
 rcases hr with hr|⟨hr,A',c',X,hX,he,hG⟩
 ·exact .inl hr
 ·obtain⟨hnk,hkq⟩:=right_few hr hl
  rw [data_same h1 hX hkq hl (by omega) (right_wid hr hl)] at hG;exact .inr ⟨hr,A',c',X,hX,he,hG⟩
end
end Go.Proofs.YtmhejbihdghhaaaGreatDoor

/-
  The contract of the document's solve of layer 6
-/
import Derived.Test.YtmhejbihdghhaaaGreatDoorQcan
import Derived.Test.YtmhejbihdghhaaaGreatDoorHg
import Derived.Deep.CutBlock
namespace Go.Proofs.YtmhejbihdghhaaaGreatDoor
set_option linter.unusedVariables false
open Go.RowKit Go.Proofs
open Go.RowKit Go.Proofs
open Go.RowKit Go.Proofs
open Go.RowKit Go.Proofs
open Go.RowKit Go.Proofs
set_option maxRecDepth 100000
set_option maxHeartbeats 400000
section
end
section
def eqM (k:Nat)(rs:List (List UInt8))(t:List Nat):Mx:=λ a c=>if c<k then facB k (t.getD a 0) c else(rs.getD (t.getD a 0) []).getD (c-k) 0
def solD (k:Nat)(X:Mx)(rs:List (List UInt8))(t:List Nat):Mx:=λ j p=>xs k λ a=>gm (X j a) ((rs.getD (t.getD a 0) []).getD p 0)
def jdk (k W:Nat)(D:Mx):List (List UInt8):=(List.range k).map λ j=>rowL W (D j)
theorem jmU {k:Nat}{X:Mx}{rs:List (List UInt8)}{t:List Nat}(f:Nat->UInt8)(p:Nat):(xs k λ j=>gm (f j) (solD k X rs t j p))=xs k λ a=>gm (xs k λ j=>gm (f j) (X j a)) ((rs.getD (t.getD a 0) []).getD p 0):=by
 have h:=congrFun (congrFun (jda k k (λ _=>f) X (λ a q=>(rs.getD (t.getD a 0) []).getD q 0)) 0) p;exact h.symm
theorem sol_of {k W:Nat}{X:Mx}{rs:List (List UInt8)}{t:List Nat}(hX:Alike k k (mm k X (facM k t)) one):Sol k W (solD k X rs t) (eqM k rs t):=by
 intro a ha p hp;have e1:(xs k λ b=>gm (eqM k rs t a b) (solD k X rs t b p))=xs k λ b=>gm (facB k (t.getD a 0) b) (solD k X rs t b p):=jaz k λ b hb=>by rw [eqM,if_pos hb]
 rw [e1,jmU];have hb:=jeB hX;have e2:(xs k λ a' =>gm (xs k λ j=>gm (facB k (t.getD a 0) j) (X j a')) ((rs.getD (t.getD a' 0) []).getD p 0))=xs k λ a' =>gm (one a a') ((rs.getD (t.getD a' 0) []).getD p 0):=jaz k λ a' ha' =>by
  rw [show (xs k λ j=>gm (facB k (t.getD a 0) j) (X j a'))=one a a' from hb a ha a' ha']
 rw [e2,jcf a k ha (λ i hi hne=>by rw [one,if_neg (λ e=>hne e.symm),ja1]),one,if_pos rfl,jbY,eqM,if_neg (by omega),show k+p-k=p from by omega]
theorem jhK {k m:Nat}{rs:List (List UInt8)}(h:jaT k m rs=0):rs.length=k+m∧jd3 rs=true∧k<=(jae rs rs.length).length:=by
 unfold jaT at h
 by_cases h1:rs.length≠k+m
 ·rw [if_pos h1] at h;exact absurd h (by decide)
 ·rw [if_neg h1] at h
  by_cases h2:jd3 rs=false
  ·rw [if_pos h2] at h;exact absurd h (by decide)
  ·rw [if_neg h2] at h
   by_cases h3:(jae rs rs.length).length<k
   ·rw [if_pos h3] at h;exact absurd h (by decide)
   ·exact⟨Decidable.not_not.1 h1,by simpa using h2,by omega⟩
end
section
theorem jb0 (k W:Nat)(D:Mx):(jdk k W D).length=k:=by simp [jdk]
theorem jck (k W:Nat)(D:Mx)(j:Nat)(h:j<k):(jdk k W D).getD j []=rowL W (D j):=by simp [jdk,h]
theorem ji6 (k W:Nat)(D:Mx):jbP (jdk k W D)=true:=decide_eq_true λ j hj=>by
 rw [jb0] at hj;rw [jck _ _ _ _ hj,jck _ _ _ _ (by omega),jag,jag]
theorem ji7 (k W:Nat)(D:Mx)(h1:1<=k)(x:Nat):shard k (jdk k W D) x=rowL W λ p=>xs k λ j=>gm (facB k x j) (D j p):=by
 rw [shard,jck _ _ _ _ (by omega),jag,sumR]
 apply jbn
 intro p hp
 apply jaz
 intro j hj;rw [jfo _ _ _ hj,jck _ _ _ _ hj,jdH _ _ _ hp]
theorem ji8 (k:Nat)(X:Mx)(rs:List (List UInt8))(T:List Nat)(W x:Nat)(h1:1<=k)(hT:T.length=k):ji4 k X rs T W x=shard k (jdk k W (solD k X rs T)) x:=by
 rw [ji7 _ _ _ h1,ji4,sumR]
 apply jbn
 intro p hp;rw [jmU]
 apply jaz
 intro j hj;rw [jeh,jdH _ _ _ hj,jft _ _ _ (by omega)]
theorem jpd (rs:List (List UInt8)){n i:Nat}(hi:i<n)(hne:(rs.getD i []).length≠0):∃a,a<(jae rs n).length∧(jae rs n).getD a 0=i:=by
 have hm:i∈jae rs n:=by
  unfold jae;exact List.mem_filter.2 ⟨List.mem_range.2 hi,decide_eq_true (by omega)⟩
 obtain⟨a,ha,e⟩:=List.mem_iff_getElem.1 hm;exact⟨a,ha,by simp [ha,e]⟩
theorem jhL (rs:List (List UInt8))(n:Nat):∀a,a<(jae rs n).length->a<=(jae rs n).getD a 0
 |0,_=>Nat.zero_le _
 |a+1,h=>by
  have h1:=jhL rs n a (by omega);have h2:=jdr rs n (show a<a+1 by omega) h;omega
theorem jk6 {k n W i:Nat}{X:Mx}{rs:List (List UInt8)}(h1:1<=k)(hX:Alike k k (mm k X (facM k ((jae rs n).take k))) one)(hk:k<=(jae rs n).length)(hkn:k<=n)
  (hw:∀a,a<k->(rs.getD (((jae rs n).take k).getD a 0) []).length=W)(hi:i<k)(hne:(rs.getD i []).length≠0):rs.getD i []=rowL W (solD k X rs ((jae rs n).take k) i):=by
 obtain⟨a,ha,hai⟩:=jpd rs (show i<n by omega) hne;have hak:a<k:=by
  have:=jhL rs n a ha;omega
 have ht:((jae rs n).take k).getD a 0=i:=by rw [ja3 hak,hai]
 have hl:=hw a hak;rw [ht] at hl;have hs:=sol_of (W:=W) (rs:=rs) hX
 apply List.ext_getElem
 ·rw [hl,jag]
 ·intro p h2 h3
  have hp:p<W:=by omega
  have e:=hs a hak p hp;have e1:eqM k rs ((jae rs n).take k) a (k+p)=(rs.getD i [])[p]:=by
   rw [eqM,if_neg (by omega),ht,show k+p-k=p from by omega,List.getD_eq_getElem?_getD,List.getElem?_eq_getElem h2,Option.getD_some]
  have e2:(xs k λ b=>gm (eqM k rs ((jae rs n).take k) a b) (solD k X rs ((jae rs n).take k) b p))=solD k X rs ((jae rs n).take k) i p:=by
   rw [jcf i k hi (λ b hb hbi=>by rw [eqM,if_pos hb,ht,facB,if_pos hi,if_neg (λ e=>hbi e.symm),ja1]),eqM,if_pos hi,ht,facB,if_pos hi,if_pos rfl,jbY]
  rw [<-e1,<-e,e2];have:=jbZ W (solD k X rs ((jae rs n).take k) i) p hp;rw [List.getElem?_eq_getElem h3] at this;injection this with this
  exact this.symm
theorem jmV {k n W:Nat}{X:Mx}{rs:List (List UInt8)}(h1:1<=k)(hX:Alike k k (mm k X (facM k ((jae rs n).take k))) one)(hk:k<=(jae rs n).length)(hl:rs.length=n)(hkn:k<=n)
  (hw:∀a,a<k->(rs.getD (((jae rs n).take k).getD a 0) []).length=W):jdq (rs.take k) (ji4 k X rs ((jae rs n).take k) W) k=jdk k W (solD k X rs ((jae rs n).take k)):=by
 have hrl:(rs.take k).length=k:=by rw [List.length_take];omega
 have hT:((jae rs n).take k).length=k:=by rw [List.length_take];omega
 apply List.ext_getElem?
 intro i
 by_cases hi:i<k
 ·rw [jbv _ _ _ _ (by omega)]
  have e1:(rs.take k).getD i []=rs.getD i []:=by rw [List.getD_eq_getElem?_getD,List.getElem?_take,if_pos hi,List.getD_eq_getElem?_getD]
  have e2:(jdk k W (solD k X rs ((jae rs n).take k)))[i]? =some (rowL W (solD k X rs ((jae rs n).take k) i)):=by simp [jdk,hi]
  rw [e1,e2]
  by_cases hz:(rs.getD i []).length=0
  ·rw [if_pos ⟨hi,hz⟩,ji8 _ _ _ _ _ _ h1 hT,jgw k _ i hi (jb0 _ _ _) (ji6 _ _ _),jck _ _ _ _ hi]
  ·rw [if_neg (λ h=>hz h.2),jk6 h1 hX hk hkn hw hi hz]
 ·rw [List.getElem?_eq_none (by rw [jaH];omega),List.getElem?_eq_none (by rw [jb0];omega)]
end
section
theorem jk7 (k:Nat)(ds:List (List UInt8))(i p:Nat)(hp:p<(ds.getD 0 []).length):(shard k ds i).getD p 0=xs k λ j=>gm (facB k i j) ((ds.getD j []).getD p 0):=by
 rw [List.getD_eq_getElem?_getD,jkn k ds i p hp,Option.getD_some]
theorem jmW {k W:Nat}{X:Mx}{ds rs:List (List UInt8)}{T:List Nat}(hW:(ds.getD 0 []).length=W)(hX:Alike k k (mm k X (facM k T)) one)(hrow:∀a,a<k->rs.getD (T.getD a 0) []=shard k ds (T.getD a 0))(j:Nat)(hj:j<k)(p:Nat)(hp:p<W):
  solD k X rs T j p=(ds.getD j []).getD p 0:=by
 have e1:solD k X rs T j p=xs k λ a=>gm (X j a) (xs k λ b=>gm (facM k T a b) ((ds.getD b []).getD p 0)):=jaz k λ a ha=>by
  rw [hrow a ha,jk7 _ _ _ _ (by omega)]
  rfl
 rw [e1];have h:=congrFun (congrFun (jda k k X (facM k T) (λ b q=>(ds.getD b []).getD q 0)) j) p;have h':(xs k λ b=>gm (mm k X (facM k T) j b) ((ds.getD b []).getD p 0))=xs k λ a=>gm (X j a) (xs k λ b=>gm (facM k T a b) ((ds.getD b []).getD p 0)):=h
 rw [<-h',jcf j k hj (λ b hb hne=>by rw [hX j hj b hb,one,if_neg (λ e=>hne e.symm),ja1]),hX j hj j hj,one,if_pos rfl,jbY]
theorem jmX {k W:Nat}{X:Mx}{ds rs:List (List UInt8)}{T:List Nat}(hl:ds.length=k)(hlv:jbP ds=true)(hW:(ds.getD 0 []).length=W)(hX:Alike k k (mm k X (facM k T)) one)(hrow:∀a,a<k->rs.getD (T.getD a 0) []=shard k ds (T.getD a 0)):jdk k W (solD k X rs T)=ds:=by
 apply List.ext_getElem
 ·rw [jb0,hl]
 ·intro j h1 h2
  have hj:j<k:=by omega
  have e:(jdk k W (solD k X rs T))[j]=rowL W (solD k X rs T j):=by simp [jdk]
  have hlj:ds[j].length=W:=by
   have:=jbt hlv (j:=j) (by omega);rw [hW] at this
   simpa [h2] using this
  rw [e]
  apply List.ext_getElem
  ·rw [jag,hlj]
  ·intro p h3 h4
   have e2:=jbZ W (solD k X rs T j) p (by omega);rw [List.getElem?_eq_getElem h3] at e2;injection e2 with e2
   rw [e2,jmW hW hX hrow j hj p (by omega)];simp [h2,h4]
end
section
theorem jmY {k m n:Nat}{rs:List (List UInt8)}(h:jaT k m rs=0)(hl:rs.length=n):∀a,a<k->(rs.getD (((jae rs n).take k).getD a 0) []).length=(rs.getD ((jae rs n).getD 0 0) []).length:=by
 obtain⟨_,hlv,hkq⟩:=jhK h;intro a ha;rw [ja3 ha];have:=(of_decide_eq_true hlv) a (by omega)
 rwa [hl] at this
theorem jmZ {k m n:Nat}{rs:List (List UInt8)}(h:jaT k m rs=0)(hl:rs.length=n):n=k+m∧k<=(jae rs n).length:=by
 obtain⟨h1,_,hkq⟩:=jhK h;rw [hl] at h1 hkq;exact⟨h1,hkq⟩
theorem jpe (C k m F T:Nat)(A:Option Addr)(n c:Nat)(rs:List (List UInt8))(w:World)(h:Cod w C k m F T)(hg:Gr w A n c rs)(hW:∀r∈rs,r.length<=1048576)(hn:n<=1048576):
  Calls Tryz.prog 154 #[.pointer (some ⟨C,0,none⟩), .slice A n c] w λ e w' =>
   ((jaT k m rs≠0∧e= .returned (.tuple #[.slice none 0 0, .int .i64 (jaT k m rs)]))∨
    (jaT k m rs=0∧∃(A':Option Addr) (c':Nat) (X:Mx),Alike k k (mm k X (facM k ((jae rs n).take k))) one∧e= .returned (.tuple #[.slice A' k c', .int .i64 0])∧Gr w' A' k c' (jdk k (rs.getD ((jae rs n).getD 0 0) []).length (solD k X rs ((jae rs n).take k)))))∧Below w.heap.size w w':=by
 have h1:=h.k1;have hl:=hg.len;refine(jmT C k m F T A n c rs w h hg hW hn).mono ?_;rintro e w' ⟨hr,hb⟩;refine⟨?_,hb⟩
 rcases hr with hr|⟨hr,A',c',X,hX,he,hG⟩
 ·exact .inl hr
 ·obtain⟨hnk,hkq⟩:=jmZ hr hl
  rw [jmV h1 hX hkq hl (by omega) (jmY hr hl)] at hG;exact .inr ⟨hr,A',c',X,hX,he,hG⟩
end
end Go.Proofs.YtmhejbihdghhaaaGreatDoor

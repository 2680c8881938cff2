/-
  A log's slots where drives are dead (layer 18), as plain data
-/
import Derived.Test.YtmhejbihdghhaaaGreatDoorQax
import Derived.Test.YtmhejbihdghhaaaGreatDoorQba
namespace Go.Proofs.YtmhejbihdghhaaaGreatDoor
set_option linter.unusedVariables false
open Go.RowKit Go.Proofs
section
variable {xs:List Dv}{k n N:Nat}{kd:UInt8}{p g:Nat}{b:List UInt8}
theorem Str.failZ0 {l:List Int}(h:Str xs k n N kd p g b (λ _=>false)):∀t,Str (YtmhejbihdghhaaaGreatDoor.failZ l xs t) k n N kd p g b (λ _=>false)
 |0=>h
 |t+1=>by
  have h1:=Str.failZ0 (l:=l) h t;have hl:=h1.len;rw [YtmhejbihdghhaaaGreatDoor.failZ]
  rcases ofD_cases (YtmhejbihdghhaaaGreatDoor.failZ l xs t) (l.getD t 0) with ⟨i,x,hi,hx⟩|hz
  ·have hd:i<n:=by have:=get_lt hx;omega
   rw [hi];exact(h1.fail hd).congr λ d _=>by
    by_cases e:d=i
    ·rw [if_pos e]
    ·rw [if_neg e]
  ·rw [onD_no hz]
   exact h1
variable {f:Nat->Option (Nat × List UInt8)}
theorem Pls.gotZ {o e slots m:Nat}{P:List (List UInt8)}{l:List Int}(h:Pls xs k n N f)(hk:1<=k)(hkn:n=k+m)(hl:l.length<=m)(hk2:k<=1000)(hN:N<=65536)(ho:o+slots<=N)(hP:P.length<=slots)(hy:∀(i:Nat) (b:List UInt8),P[i]? =some b->f (o+i)=some (genN e (i:Int),b))(hn:P.length<slots->∀b,f (o+P.length)≠some (genN e (P.length:Int),b)):Got (failZ l xs l.length) k n N o e slots P:=
 ⟨hP,λ i b hb=>by
  have hi:i<P.length:=get_lt hb;obtain⟨h1,h2⟩:=h.yes (o+i) _ b (by omega) (hy i b hb);refine⟨_,h1,h2.failZ l.length (Nat.le_refl _), ?_⟩;have:=cntG_goodZ (n:=n) (l:=l) l.length (Nat.le_refl _);omega,λ hlt=>⟨[],λ _=>false,ref18 (by omega) (genN_lt _ _) (by simp) hk2,(h.none_at hk (by omega) (hn hlt)).failZ0 _,by rw [cntG_none];omega⟩⟩
end
end Go.Proofs.YtmhejbihdghhaaaGreatDoor

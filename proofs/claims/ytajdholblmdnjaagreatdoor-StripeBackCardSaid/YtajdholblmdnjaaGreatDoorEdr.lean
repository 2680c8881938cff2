/-
  Layer 13's laws, as plain data: drives behind Put and Flush that are there. Nothing of the program.
-/
import Derived.Test.YtajdholblmdnjaaGreatDoorEch
set_option linter.unusedVariables false
namespace Go.Proofs.YtajdholblmdnjaaGreatDoor
open Go.RowKit Go.Proofs
section
variable {xs : List Dv} {k n N p g g' : Nat} {kd kd' : UInt8} {b b' : List UInt8} {G : Nat → Bool}
theorem flushS_gone (hl : xs.length = n) (h : ∀ (d : Nat) (x : Dv), xs[d]? = some x → x.gone = false) : ∀ (d : Nat) (x : Dv), (flushS xs n)[d]? = some x → x.gone = false := fun d x hq => by
 have hd := get_lt hq
 rw [flushS, upTo_len] at hd
 have hy : xs[d]? = some (xs[d]) := List.getElem?_eq_getElem hd
 rw [flushS, upTo_at hy, if_pos (by omega)] at hq
 injection hq with hq
 rw [← hq, Dv.flush1, if_neg (by rw [h d _ hy]; decide), Dv.flush_gone]
 exact h d _ hy
theorem flushS_len : (flushS xs n).length = xs.length := upTo_len
theorem putAll_len : (putAll k n kd p g b xs).length = xs.length := upTo_len
theorem putAll_gone0 (h : ∀ (d : Nat) (x : Dv), xs[d]? = some x → x.gone = false) : ∀ (d : Nat) (x : Dv), (putAll k n kd p g b xs)[d]? = some x → x.gone = false := fun d x hq => by
 have hd := get_lt hq
 rw [putAll_len] at hd
 have hy : xs[d]? = some (xs[d]) := List.getElem?_eq_getElem hd
 rw [putAll, upTo_at hy] at hq
 injection hq with hq
 rw [← hq]
 split
 ·unfold Dv.write
  have hg := h d _ hy
  rw [if_neg (by rw [hg]; decide)]
  split
  ·exact hg
  ·exact hg
 ·exact h d _ hy
theorem new_gone : ∀ (d : Nat) (x : Dv), (List.replicate n (Dv.new N))[d]? = some x → x.gone = false := fun d x hx => by
 rw [List.getElem?_replicate] at hx
 split at hx
 ·injection hx with hx; rw [← hx]; rfl
 ·cases hx
theorem Idle.wl0 {c : Nat} (h : Idle xs) : Wl c xs := fun d x hx => by rw [h d x hx]; exact Nat.zero_le _
end
end Go.Proofs.YtajdholblmdnjaaGreatDoor

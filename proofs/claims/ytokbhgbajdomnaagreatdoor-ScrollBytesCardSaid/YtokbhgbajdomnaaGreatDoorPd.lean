/-
  Layer 13's laws, as plain data: drives behind Put and Flush that are there. Nothing of the program. And what goes with it below the laws of layer 13. No condition but what each theorem says.
-/
import Derived.Test.YtokbhgbajdomnaaGreatDoorPa
set_option linter.unusedVariables false
namespace Go.Proofs.YtokbhgbajdomnaaGreatDoor
section
open Go.RowKit Go.Proofs
section
variable {xs : List Dv} {k n N p g g' : Nat} {kd kd' : UInt8} {b b' : List UInt8} {G : Nat → Bool}
theorem flushS_len : (flushS xs n).length = xs.length := upTo_len
theorem putAll_len : (putAll k n kd p g b xs).length = xs.length := upTo_len
theorem putAll_gone0 (h : ∀ (d : Nat) (x : Dv), xs[d]? = some x → x.gone = false) : ∀ (d : Nat) (x : Dv), (putAll k n kd p g b xs)[d]? = some x → x.gone = false := fun d x hq => by
 have hd := get_lt hq
 rw [putAll_len] at hd
 have hy : xs[d]? = some (xs[d]) := List.getElem?_eq_getElem hd
 rw [putAll, upTo_at hy] at hq
 injection hq with hq
 rw [← hq]
 split
 ·unfold Dv.write
  have hg := h d _ hy
  rw [if_neg (by rw [hg]; decide)]
  split
  ·exact hg
  ·exact hg
 ·exact h d _ hy
theorem new_gone : ∀ (d : Nat) (x : Dv), (List.replicate n (Dv.new N))[d]? = some x → x.gone = false := fun d x hx => by
 rw [List.getElem?_replicate] at hx
 split at hx
 ·injection hx with hx; rw [← hx]; rfl
 ·cases hx
theorem Idle.wl0 {c : Nat} (h : Idle xs) : Wl c xs := fun d x hx => by rw [h d x hx]; exact Nat.zero_le _
end
end
section
open Go.RowKit Go.Proofs
section
variable {xs : List Dv} {k n N p g g' : Nat} {kd kd' : UInt8} {b b' : List UInt8} {G : Nat → Bool}
theorem live_all {d : Nat} (h : ∀ (d : Nat) (x : Dv), xs[d]? = some x → x.gone = false) (hd : d < xs.length) : liveG xs d = true := by
 have hy : xs[d]? = some (xs[d]) := List.getElem?_eq_getElem hd
 rw [liveG_at hy, h d _ hy]
 rfl
theorem Str.aside13 {o : Nat} (h : Str xs k n N kd p g b G) (ho : o < N) (hne : o ≠ p) (hk : 1 ≤ k) (hr : RefOk kd' o g' b'.length (44 * k)) : Str (putAll k n kd' o g' b' xs) k n N kd p g b G :=
 h.each fun d x hx _ => (h.at_ d x hx).aside ho hne (sec13_len hk hr)
end
end
end Go.Proofs.YtokbhgbajdomnaaGreatDoor

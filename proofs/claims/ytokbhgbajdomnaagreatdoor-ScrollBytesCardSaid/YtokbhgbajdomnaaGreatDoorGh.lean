/-
  Plain mathematics: a function that is a polynomial of fewer than n terms, and has n roots, is nought; so a Cauchy matrix has an inverse. No program, no condition.
-/
import Derived.Test.YtokbhgbajdomnaaGreatDoorGa
set_option linter.unusedVariables false
namespace Go.Proofs.YtokbhgbajdomnaaGreatDoor
def PF : Nat → (UInt8 → UInt8) → Prop
 | 0, f => ∀ x, f x = 0
 | n + 1, f => ∃ (c : UInt8) (g : UInt8 → UInt8), PF n g ∧ ∀ x, f x = c ^^^ gm x (g x)
theorem PF.congr : ∀ {n : Nat} {f g : UInt8 → UInt8}, PF n f → (∀ x, g x = f x) → PF n g
 | 0, _, _, h, e => fun x => by rw [e, h x]
 | _ + 1, _, _, ⟨c, q, hq, h⟩, e => ⟨c, q, hq, fun x => by rw [e, h x]⟩
theorem PF.none : ∀ n, PF n (fun _ => 0)
 | 0 => fun _ => rfl
 | n + 1 => ⟨0, fun _ => 0, PF.none n, fun x => by rw [gm_zero, ux0]⟩
theorem PF.add : ∀ {n : Nat} {f g : UInt8 → UInt8}, PF n f → PF n g → PF n (fun x => f x ^^^ g x)
 | 0, _, _, h, k => fun x => by dsimp only; rw [h x, k x, ux0]
 | _ + 1, _, _, ⟨c, p, hp, h⟩, ⟨d, q, hq, k⟩ => ⟨c ^^^ d, fun x => p x ^^^ q x, hp.add hq, fun x => by dsimp only; rw [h x, k x, uxor4, gm_xor]⟩
theorem PF.scale (s : UInt8) : ∀ {n : Nat} {f : UInt8 → UInt8}, PF n f → PF n (fun x => gm s (f x))
 | 0, _, h => fun x => by dsimp only; rw [h x, gm_zero]
 | _ + 1, _, ⟨c, p, hp, h⟩ => ⟨gm s c, fun x => gm s (p x), hp.scale s, fun x => by dsimp only; rw [h x, gm_xor, ← gm_assoc, gm_comm s x, gm_assoc]⟩
theorem PF.more : ∀ {n : Nat} {f : UInt8 → UInt8}, PF n f → PF (n + 1) f
 | 0, _, h => ⟨0, fun _ => 0, fun _ => rfl, fun x => by rw [h x, gm_zero, ux0]⟩
 | _ + 1, _, ⟨c, p, hp, h⟩ => ⟨c, p, hp.more, h⟩
theorem PF.times {n : Nat} {f : UInt8 → UInt8} (y : UInt8) (h : PF n f) : PF (n + 1) (fun x => gm (x ^^^ y) (f x)) := by
 have h1 : PF (n + 1) (fun x => gm x (f x)) := ⟨0, f, h, fun x => by rw [uzx]⟩
 exact (h1.add (h.more.scale y)).congr fun x => xor_gm _ _ _
theorem PF.parted (a : UInt8) : ∀ {n : Nat} {f : UInt8 → UInt8}, PF (n + 1) f → ∃ q, PF n q ∧ ∀ x, f x = f a ^^^ gm (x ^^^ a) (q x)
 | 0, f, ⟨c, g, hg, h⟩ => ⟨fun _ => 0, fun _ => rfl, fun x => by rw [h x, h a, hg x, hg a, gm_zero, gm_zero, gm_zero, ux0, ux0]⟩
 | n + 1, f, ⟨c, g, hg, h⟩ => by
  obtain ⟨q, hq, e⟩ := hg.parted a
  refine ⟨fun x => g a ^^^ gm x (q x), ⟨g a, q, hq, fun _ => rfl⟩, fun x => ?_⟩
  rw [h x, h a, e x]
  have e1 : gm x (gm (x ^^^ a) (q x)) = gm (x ^^^ a) (gm x (q x)) := by rw [← gm_assoc, gm_comm x, gm_assoc]
  rw [gm_xor, gm_xor, e1, xor_gm x a (g a)]
  generalize gm (x ^^^ a) (gm x (q x)) = u
  generalize gm x (g a) = v
  generalize gm a (g a) = w
  rw [UInt8.xor_assoc c w, ← UInt8.xor_assoc w, ← UInt8.xor_assoc w, UInt8.xor_comm w v, ux_cancel]
theorem PF.roots : ∀ {n : Nat} {f : UInt8 → UInt8} (r : Nat → UInt8), PF n f → (∀ i, i < n → ∀ j, j < i → r i ≠ r j) → (∀ i, i < n → f (r i) = 0) → ∀ x, f x = 0
 | 0, _, _, h, _, _ => h
 | n + 1, f, r, h, hd, hr => by
  obtain ⟨q, hq, e⟩ := h.parted (r n)
  have h0 : ∀ x, f x = gm (x ^^^ r n) (q x) := fun x => by rw [e x, hr n (by omega), uzx]
  have hz := hq.roots r (fun i hi j hj => hd i (by omega) j hj) (fun i hi => by
   have := hr i (by omega)
   rw [h0] at this
   refine (gm_eq_zero this).resolve_left fun hx => ?_
   exact hd n (by omega) i hi (ux_eq hx).symm)
  intro x
  rw [h0, hz x, gm_zero]
def pr (y : Nat → UInt8) (j : Nat) : Nat → UInt8 → UInt8
 | 0, _ => 1
 | k + 1, x => if k = j then pr y j k x else gm (x ^^^ y k) (pr y j k x)
def fullC (y : Nat → UInt8) : Nat → UInt8 → UInt8
 | 0, _ => 1
 | k + 1, x => gm (x ^^^ y k) (fullC y k x)
theorem pr_pf (y : Nat → UInt8) (j : Nat) : ∀ k, PF (if j < k then k else k + 1) (pr y j k)
 | 0 => ⟨1, fun _ => 0, fun _ => rfl, fun x => by rw [gm_zero, ux0]; rfl⟩
 | k + 1 => by
  have ih := pr_pf y j k
  by_cases h : k = j
  ·subst h
   rw [if_neg (Nat.lt_irrefl _)] at ih
   rw [if_pos (by omega)]
   exact ih.congr fun x => by rw [pr, if_pos rfl]
  ·by_cases h1 : j < k
   ·rw [if_pos h1] at ih
    rw [if_pos (by omega)]
    exact (ih.times (y k)).congr fun x => by rw [pr, if_neg h]
   ·rw [if_neg h1] at ih
    rw [if_neg (by omega)]
    exact (ih.times (y k)).congr fun x => by rw [pr, if_neg h]
theorem pr_out (y : Nat → UInt8) (j : Nat) (x : UInt8) : ∀ k, k ≤ j → pr y j k x = fullC y k x
 | 0, _ => rfl
 | k + 1, h => by rw [pr, if_neg (by omega), fullC, pr_out y j x k (by omega)]
theorem pr_full (y : Nat → UInt8) (j : Nat) (x : UInt8) : ∀ k, j < k → fullC y k x = gm (x ^^^ y j) (pr y j k x)
 | 0, h => absurd h (by omega)
 | k + 1, h => by
  by_cases hk : k = j
  ·subst hk
   rw [fullC, pr, if_pos rfl, pr_out y k x k (Nat.le_refl _)]
  ·rw [fullC, pr, if_neg hk, pr_full y j x k (by omega), ← gm_assoc, gm_comm (x ^^^ y k), gm_assoc]
theorem pr_ne (y : Nat → UInt8) (j : Nat) (x : UInt8) : ∀ k, (∀ l, l < k → l ≠ j → x ≠ y l) → pr y j k x ≠ 0
 | 0, _ => (by decide : (1 : UInt8) ≠ 0)
 | k + 1, h => by
  have ih := pr_ne y j x k (fun l hl hn => h l (by omega) hn)
  rw [pr]
  split
  ·exact ih
  ·exact gm_ne (fun e => h k (by omega) (by assumption) (ux_eq e)) ih
theorem pr_at (y : Nat → UInt8) (j : Nat) (x : UInt8) : ∀ k l, l < k → l ≠ j → x = y l → pr y j k x = 0
 | 0, _, h, _, _ => absurd h (by omega)
 | k + 1, l, h, hn, e => by
  rw [pr]
  by_cases hl : l = k
  ·subst hl
   rw [if_neg hn, e, uxx, zero_gm]
  ·have ih := pr_at y j x k l (by omega) hn e
   split
   ·exact ih
   ·rw [ih, gm_zero]
theorem xs_pf (n m : Nat) (F : Nat → UInt8 → UInt8) (h : ∀ j, j < m → PF n (F j)) : PF n (fun x => xs m (fun j => F j x)) := by
 induction m with
 | zero => exact PF.none n
 | succ m ih => exact (ih fun j hj => h j (by omega)).add (h m (by omega))
end Go.Proofs.YtokbhgbajdomnaaGreatDoor

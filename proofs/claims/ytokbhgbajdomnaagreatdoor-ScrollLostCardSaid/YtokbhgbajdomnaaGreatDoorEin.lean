/-
  Layer 16, plain: drives of which one place rots, drive by drive. No program.
-/
import Derived.Test.YtokbhgbajdomnaaGreatDoorEij
set_option linter.unusedVariables false
namespace Go.Proofs.YtokbhgbajdomnaaGreatDoor
open Go.RowKit Go.Proofs
def Fine (x : Dv) : Prop := x.gone = false ∧ ∀ i, x.rot.getD i false = false
theorem set_false16 {l : List Bool} (h : ∀ i, l.getD i false = false) (j i : Nat) : (l.set j false).getD i false = false := by
 have hi := h i
 rw [List.getD_eq_getElem?_getD] at hi ⊢
 rw [List.getElem?_set]
 split
 ·split <;> rfl
 ·exact hi
theorem puts_fine16 : ∀ (l : List (Nat × List UInt8)) (x : Dv), (∀ i, x.rot.getD i false = false) → ∀ i, (x.puts l).rot.getD i false = false
 | [], _, h => h
 | p :: l, x, h => puts_fine16 l (x.put p) fun i => set_false16 h p.1 i
theorem Fine.new {N : Nat} : Fine (Dv.new N) := ⟨rfl, fun i => by
 show (List.replicate N false).getD i false = false
 rw [List.getD_eq_getElem?_getD, List.getElem?_replicate]
 split <;> rfl⟩
theorem Fine.write {x : Dv} (h : Fine x) (z : Int) (l : List UInt8) : Fine (x.write z l) := by
 unfold Dv.write
 split
 ·exact h
 ·split
  ·exact h
  ·exact h
theorem Fine.flush1 {x : Dv} (h : Fine x) : Fine x.flush1 := by
 unfold Dv.flush1
 rw [if_neg (by rw [h.1]; decide)]
 exact ⟨by rw [Dv.flush_gone]; exact h.1, fun i => puts_fine16 x.wait x h.2 i⟩
section
variable {xs : List Dv} {k n N p g : Nat} {kd : UInt8} {b : List UInt8} {G : Nat → Bool}
theorem upTo_fine16 {F : Nat → Dv → Dv} (h : ∀ (d : Nat) (x : Dv), xs[d]? = some x → Fine x) (hF : ∀ d x, Fine x → Fine (F d x)) : ∀ (d : Nat) (x : Dv), (upTo F xs n)[d]? = some x → Fine x := fun d x hq => by
 have hd := get_lt hq
 rw [upTo_len] at hd
 have hy : xs[d]? = some (xs[d]) := List.getElem?_eq_getElem hd
 rw [upTo_at hy] at hq
 injection hq with hq
 rw [← hq]
 split
 ·exact hF d _ (h d _ hy)
 ·exact h d _ hy
theorem putT_fine16 {ps : List Nat} {T : Nat → List UInt8} (h : ∀ (d : Nat) (x : Dv), xs[d]? = some x → Fine x) : ∀ i (d : Nat) (x : Dv), (putT k n kd ps g T xs i)[d]? = some x → Fine x
 | 0 => h
 | i + 1 => by rw [putT]; exact upTo_fine16 (putT_fine16 h i) fun d x hx => hx.write _ _
theorem flushS_fine16 (h : ∀ (d : Nat) (x : Dv), xs[d]? = some x → Fine x) : ∀ (d : Nat) (x : Dv), (flushS xs n)[d]? = some x → Fine x := upTo_fine16 h fun d x hx => hx.flush1
theorem new_fine16 : ∀ (d : Nat) (x : Dv), (List.replicate n (Dv.new N))[d]? = some x → Fine x := fun d x hx => by
 rw [List.getElem?_replicate] at hx
 split at hx
 ·injection hx with hx; rw [← hx]; exact Fine.new
 ·cases hx
def rotT (z : Nat) (xs : List Dv) : Nat → List Dv
 | 0 => xs
 | t + 1 => onD (rotT z xs t) (t : Int) (fun x => x.rot1 (z : Int) ((16 : Nat) : Int) ((255 : Nat) : Int))
theorem rotT_len {z : Nat} : ∀ t, (rotT z xs t).length = xs.length
 | 0 => rfl
 | t + 1 => by rw [rotT, onD_len, rotT_len t]
theorem rotT_at {z d : Nat} : ∀ t, t ≤ d → (rotT z xs t)[d]? = xs[d]?
 | 0, _ => rfl
 | t + 1, h => by rw [rotT, onD_ne (by omega)]; exact rotT_at t (by omega)
theorem rotX_fine16 {x : Dv} {z : Nat} (h : Fine x) (hz : z < x.n) : x.rotX (z : Int) ((16 : Nat) : Int) ((255 : Nat) : Int) = 0 := by
 unfold Dv.rotX
 rw [if_neg (by rw [h.1]; decide), if_neg (fun q => q ⟨⟨by omega, by omega⟩, by decide, by decide, by decide⟩), if_neg (by rw [Int.toNat_natCast, h.2]; decide)]
theorem Is13.rot_aside {x : Dv} {s : List UInt8} {W : List UInt8 → Prop} {gd : Bool} {o : Nat} {off mask : Int} (h : Is13 x N p s W gd) (hne : o ≠ p) : Is13 (x.rot1 (o : Int) off mask) N p s W gd := by
 have hl : (x.rot1 (o : Int) off mask).look p = x.look p := by
  unfold Dv.rot1
  split
  ·show (Dv.lastW x.wait p).getD ((x.st.set (o : Int).toNat _).getD p []) = (Dv.lastW x.wait p).getD (x.st.getD p [])
   rw [Int.toNat_natCast, List.getD_eq_getElem?_getD, List.getElem?_set_ne hne, ← List.getD_eq_getElem?_getD]
  ·rfl
 have hg : (x.rot1 (o : Int) off mask).gone = x.gone := by
  unfold Dv.rot1
  split <;> rfl
 exact ⟨h.ok.rot1 _ _ _, by rw [rot1_n]; exact h.n, fun e => by rw [hl, hg]; exact h.yes e, fun e => by rw [hl, hg]; exact h.no e⟩
theorem Str.rotT16 (h : Str xs k n N kd p g b (fun _ => true)) (hf : ∀ (d : Nat) (x : Dv), xs[d]? = some x → Fine x) (hi : Idle xs) (hk : 1 ≤ k) (hr : RefOk kd p g b.length (44 * k)) (hp : p < N) : ∀ t, t ≤ n → Str (rotT p xs t) k n N kd p g b (fun d => decide (t ≤ d))
 | 0, _ => h.congr fun d hd => by simp
 | t + 1, ht => by
  have h1 := Str.rotT16 h hf hi hk hr hp t (by omega)
  rw [rotT]
  refine (h1.one (d := t) (v := false) (by omega) fun x hx => ?_).congr fun d hd => ?_
  ·have hx2 := hx
   rw [rotT_at t (Nat.le_refl _)] at hx2
   have h3 := h1.at_ t x hx
   rw [decide_eq_true (Nat.le_refl t)] at h3
   exact h3.rot (hi t x hx2) hp (rotX_fine16 (hf t x hx2) (by rw [h3.n]; exact hp)) (secT_spoilt hr (row13_len hk) (by decide) (by decide) (by decide))
  ·by_cases e : d = t
   ·rw [if_pos e]; simp; omega
   ·rw [if_neg e]; congr 1; apply propext; constructor <;> intro q <;> omega
theorem Str.rotT_aside {o : Nat} (h : Str xs k n N kd p g b G) (hne : o ≠ p) : ∀ t, t ≤ n → Str (rotT o xs t) k n N kd p g b G
 | 0, _ => h
 | t + 1, ht => by
  have h1 := Str.rotT_aside h hne t (by omega)
  rw [rotT]
  refine (h1.one (d := t) (v := G t) (by omega) fun x hx => (h1.at_ t x hx).rot_aside hne).congr fun d hd => ?_
  by_cases e : d = t
  ·rw [if_pos e, e]
  ·rw [if_neg e]
theorem cntG_from {t : Nat} : ∀ n, cntG n (fun d => decide (t ≤ d)) = n - t
 | 0 => by rw [Nat.zero_sub]; rfl
 | n + 1 => by
  have e : cntG (n + 1) (fun d => decide (t ≤ d)) = cntG n (fun d => decide (t ≤ d)) + (if decide (t ≤ n) = true then 1 else 0) := by
   rw [cntG, List.range_succ, List.countP_append, cntG]
   simp [List.countP_cons]
  rw [e, cntG_from n]
  by_cases h : t ≤ n
  ·rw [if_pos (decide_eq_true h)]; omega
  ·rw [if_neg (by simp; omega)]; omega
theorem ValT.rotT16 {ps : List Nat} {T : Nat → List UInt8} {t d : Nat} (h : ValT xs k n N kd ps g T (fun _ _ => true)) (hv : VOk k N ps g) (hT : TOk k kd T) (hf : ∀ (d : Nat) (x : Dv), xs[d]? = some x → Fine x) (hi : Idle xs) (ht : t < ps.length) (hd : d ≤ n) :
  ValT (rotT (ps.getD t 0) xs d) k n N kd ps g T (fun i => if i = t then (fun e => decide (d ≤ e)) else fun _ => true) := fun i hii => by
 show Str _ _ _ _ _ _ _ _ (if i = t then (fun e => decide (d ≤ e)) else fun _ => true)
 by_cases e : i = t
 ·rw [if_pos e, e]
  exact (h t ht).rotT16 hf hi hv.k1 (hv.rT hT ht) (hv.at_ t ht) d hd
 ·rw [if_neg e]
  refine (h i hii).rotT_aside (fun e2 => ?_) d hd
  rcases Nat.lt_or_ge i t with q | q
  ·exact hv.nd i t q ht e2.symm
  ·exact hv.nd t i (by omega) hii e2
end
end Go.Proofs.YtokbhgbajdomnaaGreatDoor

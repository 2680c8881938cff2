/-
  Layer 13, as plain data: which shards are good, counted; a stripe on an array's drives ('Str'), and what becomes of it. Nothing of the program.
-/
import Derived.Test.YtajdholblmdnjaaGreatDoorEca
import Derived.Test.YtajdholblmdnjaaGreatDoorEcb
import Derived.Test.YtajdholblmdnjaaGreatDoorEcd
import Derived.Test.YtajdholblmdnjaaGreatDoorHc
set_option linter.unusedVariables false
namespace Go.Proofs.YtajdholblmdnjaaGreatDoor
open Go.RowKit Go.Proofs
def cntG (n : Nat) (G : Nat → Bool) : Nat := (List.range n).countP G
theorem cntG_congr {n : Nat} {G H : Nat → Bool} (h : ∀ d, d < n → G d = H d) : cntG n G = cntG n H := by
 unfold cntG
 exact List.countP_congr fun d hd => by rw [h d (List.mem_range.1 hd)]
theorem cntG_all {n : Nat} {G : Nat → Bool} (h : ∀ d, d < n → G d = true) : cntG n G = n := by
 unfold cntG
 rw [List.countP_eq_length.2 fun d hd => h d (List.mem_range.1 hd), List.length_range]
theorem cntG_le {n : Nat} {G : Nat → Bool} : cntG n G ≤ n := by
 have := List.countP_le_length (p := G) (l := List.range n)
 rwa [List.length_range] at this
theorem cntG_home (n p : Nat) (G : Nat → Bool) : cntG n (fun i => G (homeN n p i)) = cntG n G := by
 have hperm : ((List.range n).map (homeN n p)).Perm (List.range n) := by
  refine (List.perm_ext_iff_of_nodup ?_ List.nodup_range).2 fun d => ?_
  ·refine List.pairwise_map.2 (List.Pairwise.imp_of_mem ?_ (List.nodup_range (n := n)))
   intro a b ha hb hne hab
   apply hne
   have ha := List.mem_range.1 ha
   have hb := List.mem_range.1 hb
   rw [← idx_home (p := p) ha, ← idx_home (p := p) hb, hab]
  ·rw [List.mem_map, List.mem_range]
   constructor
   ·rintro ⟨i, hi, rfl⟩
    exact home_lt (by have := List.mem_range.1 hi; omega)
   ·intro hd
    exact ⟨idxN n p d, List.mem_range.2 (idx_lt13 (by omega)), home_idx hd⟩
 have := hperm.countP_eq G
 rw [List.countP_map] at this
 exact this
theorem cntG_less {n : Nat} {l : List Nat} (h : Dist n l) : cntG n (fun d => !l.contains d) + l.length = n := by
 have h1 : ((List.range n).filter fun d => l.contains d).Perm l := by
  refine (List.perm_ext_iff_of_nodup (List.nodup_range.filter _) h.nd).2 fun d => ?_
  rw [List.mem_filter, List.mem_range, List.contains_iff_mem]
  exact ⟨fun q => q.2, fun q => ⟨h.lt d q, q⟩⟩
 have h2 := List.length_eq_countP_add_countP (p := fun d => l.contains d) (l := List.range n)
 rw [List.length_range, List.countP_eq_length_filter, h1.length_eq] at h2
 have h3 : cntG n (fun d => !l.contains d) = List.countP (fun d => decide ¬ l.contains d = true) (List.range n) := by
  unfold cntG
  exact List.countP_congr fun d _ => by cases l.contains d <;> simp
 omega
def row13 (k : Nat) (b : List UInt8) (i : Nat) : List UInt8 := shard k (cutL b 44 k) i
theorem row13_len {k i : Nat} {b : List UInt8} (hk : 1 ≤ k) : (row13 k b i).length = 44 := by
 unfold row13 shard
 have h : ((cutL b 44 k).getD 0 []).length = 44 := cut_rows b 44 k _ (by
  rw [List.getD_eq_getElem?_getD, List.getElem?_eq_getElem (by rw [cutL_length]; omega), Option.getD_some]
  exact List.getElem_mem _)
 rw [h, sumR_length]
def sec13 (k n : Nat) (kd : UInt8) (p g : Nat) (b : List UInt8) (d : Nat) : List UInt8 := secT kd p g b.length (row13 k b (idxN n p d)) (idxN n p d)
def who13 (k n : Nat) (kd : UInt8) (p g : Nat) (d : Nat) : List UInt8 → Prop := isWhole kd p g (idxN n p d) (44 * k)
theorem sec13_len {k n : Nat} {kd : UInt8} {p g : Nat} {b : List UInt8} {d : Nat} (hk : 1 ≤ k) (h : RefOk kd p g b.length (44 * k)) : (sec13 k n kd p g b d).length = 64 := secT_len h (row13_len hk)
structure Str (xs : List Dv) (k n N : Nat) (kd : UInt8) (p g : Nat) (b : List UInt8) (G : Nat → Bool) : Prop where
 len : xs.length = n
 at_ : ∀ (d : Nat) (x : Dv), xs[d]? = some x → Is13 x N p (sec13 k n kd p g b d) (who13 k n kd p g d) (G d)
section
variable {xs : List Dv} {k n N : Nat} {kd : UInt8} {p g : Nat} {b : List UInt8} {G H : Nat → Bool}
theorem Str.congr (h : Str xs k n N kd p g b G) (he : ∀ d, d < n → G d = H d) : Str xs k n N kd p g b H := ⟨h.len, fun d x hx => by
 have := h.at_ d x hx
 rwa [he d (by have := get_lt hx; have := h.len; omega)] at this⟩
theorem Str.each {F : Nat → Dv → Dv} (h : Str xs k n N kd p g b G) (hF : ∀ (d : Nat) (x : Dv), xs[d]? = some x → d < n → Is13 (F d x) N p (sec13 k n kd p g b d) (who13 k n kd p g d) (H d)) : Str (upTo F xs n) k n N kd p g b H := ⟨by rw [upTo_len, h.len], fun d x hx => by
 have hd := get_lt hx
 rw [upTo_len] at hd
 have hy : xs[d]? = some (xs[d]) := List.getElem?_eq_getElem hd
 rw [upTo_at hy] at hx
 have hn : d < n := by rw [← h.len]; exact hd
 rw [if_pos hn] at hx
 injection hx with hx
 rw [← hx]
 exact hF d _ hy hn⟩
theorem Str.one {f : Dv → Dv} {d : Nat} {v : Bool} (h : Str xs k n N kd p g b G) (hd : d < n) (hf : ∀ x, xs[d]? = some x → Is13 (f x) N p (sec13 k n kd p g b d) (who13 k n kd p g d) v) : Str (onD xs (d : Int) f) k n N kd p g b (fun e => if e = d then v else G e) := ⟨by rw [onD_len, h.len], fun e x hx => by
 have hy : xs[d]? = some (xs[d]'(by rw [h.len]; exact hd)) := List.getElem?_eq_getElem _
 by_cases he : e = d
 ·subst he
  rw [if_pos rfl]
  rw [onD_yes hy, List.getElem?_set_self (by rw [h.len]; exact hd)] at hx
  injection hx with hx
  rw [← hx]
  exact hf _ hy
 ·rw [if_neg he]
  rw [onD_ne (by omega)] at hx
  exact h.at_ e x hx⟩
end
end Go.Proofs.YtajdholblmdnjaaGreatDoor

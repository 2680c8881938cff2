/-
  Layer 13, as plain data: what Put, Flush, the laws' hurt, Fail and Replace make of a stripe on drives. Nothing of the program.
-/
import Derived.Test.YtajdholblmdnjaaGreatDoorEce
set_option linter.unusedVariables false
namespace Go.Proofs.YtajdholblmdnjaaGreatDoor
open Go.RowKit Go.Proofs
def Idle (xs : List Dv) : Prop := ∀ (d : Nat) (x : Dv), xs[d]? = some x → x.wait = []
theorem Idle.new {n N : Nat} : Idle (List.replicate n (Dv.new N)) := fun d x hx => by
 rw [List.getElem?_replicate] at hx
 split at hx
 ·injection hx with hx; rw [← hx]; rfl
 ·cases hx
theorem Idle.one {xs : List Dv} {z : Int} {f : Dv → Dv} (h : Idle xs) (hf : ∀ x, x.wait = [] → (f x).wait = []) : Idle (onD xs z f) := by
 rcases ofD_cases xs z with ⟨i, x, rfl, hx⟩ | hz
 ·intro e y hy
  by_cases he : (e : Int) = (i : Int)
  ·have he : e = i := by omega
   subst he
   rw [onD_yes hx, List.getElem?_set_self (get_lt hx)] at hy
   injection hy with hy
   rw [← hy]
   exact hf _ (h _ _ hx)
  ·rw [onD_ne he] at hy
   exact h e y hy
 ·rw [onD_no hz]; exact h
theorem rot1_wait {x : Dv} {z off mask : Int} : (x.rot1 z off mask).wait = x.wait := by
 unfold Dv.rot1
 split
 ·rfl
 ·rfl
theorem hurtX_wait {x : Dv} {p off : Int} {mask t : Nat} (h : x.wait = []) : (hurtX p off mask t x).wait = [] := by
 unfold hurtX
 split
 ·rfl
 ·split
  ·rw [rot1_wait]; exact h
  ·rfl
theorem hurtT_idle {p off : Int} {mask : Nat} {l : List Nat} {xs : List Dv} (h : Idle xs) : ∀ t, Idle (hurtT p off mask l xs t)
 | 0 => h
 | t + 1 => (hurtT_idle h t).one fun x hx => hurtX_wait hx
section
variable {xs : List Dv} {k n N : Nat} {kd : UInt8} {p g : Nat} {b : List UInt8} {G H : Nat → Bool}
def putAll (k n : Nat) (kd : UInt8) (p g : Nat) (b : List UInt8) (xs : List Dv) : List Dv := upTo (fun d x => x.write (p : Int) (sec13 k n kd p g b d)) xs n
def liveG (xs : List Dv) (d : Nat) : Bool := match xs[d]? with | some x => !x.gone | none => false
theorem liveG_at {d : Nat} {x : Dv} (h : xs[d]? = some x) : liveG xs d = !x.gone := by rw [liveG, h]
theorem Str.put (hl : xs.length = n) (ho : ∀ (d : Nat) (x : Dv), xs[d]? = some x → x.Ok ∧ x.n = N) (hk : 1 ≤ k) (hr : RefOk kd p g b.length (44 * k)) (hp : p < N) : Str (putAll k n kd p g b xs) k n N kd p g b (liveG xs) := ⟨by rw [putAll, upTo_len, hl], fun d x hx => by
 have hd := get_lt hx
 rw [putAll, upTo_len] at hd
 have hy : xs[d]? = some (xs[d]) := List.getElem?_eq_getElem hd
 rw [putAll, upTo_at hy, if_pos (by rw [← hl]; exact hd)] at hx
 injection hx with hx
 rw [← hx, liveG_at hy]
 exact Is13.write (ho d _ hy).1 (ho d _ hy).2 hp (sec13_len hk hr)⟩
theorem Str.flush (h : Str xs k n N kd p g b G) (hp : p < N) : Str (flushS xs n) k n N kd p g b G := h.each fun d x hx _ => (h.at_ d x hx).flush hp
theorem flushS_idle (hl : xs.length = n) (ho : ∀ (d : Nat) (x : Dv), xs[d]? = some x → x.Ok) : Idle (flushS xs n) := fun d x hx => by
 have hd := get_lt hx
 rw [flushS, upTo_len] at hd
 have hy : xs[d]? = some (xs[d]) := List.getElem?_eq_getElem hd
 rw [flushS, upTo_at hy, if_pos (by rw [← hl]; exact hd)] at hx
 injection hx with hx
 rw [← hx]
 exact flush1_wait (ho d _ hy)
theorem Str.fail (h : Str xs k n N kd p g b G) {d : Nat} (hd : d < n) : Str (onD xs (d : Int) (fun x => x.fail)) k n N kd p g b (fun e => if e = d then false else G e) := h.one hd fun x hx => Is13.fail (h.at_ d x hx).n
theorem Str.hurt1 (h : Str xs k n N kd p g b G) (hi : Idle xs) (hk : 1 ≤ k) (hr : RefOk kd p g b.length (44 * k)) (hp : p < N) {d off mask t : Nat} (hd : d < n) (hG : G d = true) (ho : off ≤ 60) (hm0 : mask ≠ 0) (hm : mask < 4294967296) : Str (onD xs (d : Int) (hurtX (p : Int) (off : Int) mask t)) k n N kd p g b (fun e => if e = d then false else G e) := h.one hd fun x hx => by
 have hx1 := h.at_ d x hx
 rw [hG] at hx1
 unfold hurtX
 split
 ·exact Is13.fail hx1.n
 ·split
  ·rename_i hX
   exact hx1.rot (hi d x hx) hp hX (secT_spoilt hr (row13_len hk) ho hm0 hm)
  ·exact Is13.fail (by rw [rot1_n]; exact hx1.n)
theorem Str.hurts (h : Str xs k n N kd p g b G) (hi : Idle xs) (hk : 1 ≤ k) (hr : RefOk kd p g b.length (44 * k)) (hp : p < N) {off mask : Nat} (ho : off ≤ 60) (hm0 : mask ≠ 0) (hm : mask < 4294967296) {l : List Nat} (hl : Dist n l) (hG : ∀ d ∈ l, G d = true) :
  ∀ t, t ≤ l.length → Str (hurtT (p : Int) (off : Int) mask l xs t) k n N kd p g b (fun e => G e && !(l.take t).contains e)
 | 0, _ => h.congr fun d _ => by simp
 | t + 1, ht => by
  have ih := Str.hurts h hi hk hr hp ho hm0 hm hl hG t (by omega)
  have htl : t < l.length := by omega
  have e : l.getD t 0 = l[t]'htl := by rw [List.getD_eq_getElem?_getD, List.getElem?_eq_getElem htl, Option.getD_some]
  have hmem : l[t]'htl ∈ l := List.getElem_mem _
  have hnot : ¬ (l[t]'htl) ∈ l.take t := by
   intro hm
   have hsplit : l = l.take t ++ l[t]'htl :: l.drop (t + 1) := by
    rw [← List.drop_eq_getElem_cons htl, List.take_append_drop]
   have hnd := hl.nd
   rw [hsplit] at hnd
   exact (List.nodup_append.1 hnd).2.2 _ hm _ List.mem_cons_self rfl
  have hc : (l.take t).contains (l[t]'htl) = false := by
   rw [Bool.eq_false_iff]
   intro q
   exact hnot (List.contains_iff_mem.1 q)
  have h1 := ih.hurt1 (hurtT_idle hi t) hk hr hp (t := t) (hl.lt _ hmem) (by rw [hc, hG _ hmem]; rfl) ho hm0 hm
  rw [hurtT, e]
  refine h1.congr fun d _ => ?_
  rw [take_next (List.getElem?_eq_getElem htl)]
  by_cases q : d = l[t]'htl
  ·rw [if_pos q, q, show (l.take t ++ [l[t]'htl]).contains (l[t]'htl) = true from List.contains_iff_mem.2 (List.mem_append.2 (.inr (List.mem_singleton.2 rfl)))]
   simp
  ·rw [if_neg q]
   have hq : (l.take t ++ [l[t]'htl]).contains d = (l.take t).contains d := by
    rw [Bool.eq_iff_iff, List.contains_iff_mem, List.contains_iff_mem, List.mem_append, List.mem_singleton]
    exact ⟨fun r => r.elim id (fun r => absurd r q), .inl⟩
   rw [hq]
theorem Str.hurtAll (h : Str xs k n N kd p g b G) (hi : Idle xs) (hk : 1 ≤ k) (hr : RefOk kd p g b.length (44 * k)) (hp : p < N) {off mask : Nat} (ho : off ≤ 60) (hm0 : mask ≠ 0) (hm : mask < 4294967296) {l : List Nat} (hl : Dist n l) (hG : ∀ d, d < n → G d = true) : Str (hurtT (p : Int) (off : Int) mask l xs l.length) k n N kd p g b (fun e => !l.contains e) :=
 (h.hurts hi hk hr hp ho hm0 hm hl (fun d hd => hG d (hl.lt d hd)) l.length (Nat.le_refl _)).congr fun d hd => by rw [List.take_length, hG d hd, Bool.true_and]
end
theorem cntG_one {n : Nat} {l : List Nat} (h : Dist n l) {d : Nat} (hd : d < n) (hdl : d ∉ l) : cntG n (fun e => if e = d then false else !l.contains e) + l.length + 1 = n := by
 have h2 : Dist n (l ++ [d]) := ⟨fun x hx => by
  rcases List.mem_append.1 hx with q | q
  ·exact h.lt x q
  ·rw [List.mem_singleton.1 q]; exact hd, List.nodup_append.2 ⟨h.nd, by simp, fun x hx y hy => by
   rw [List.mem_singleton.1 hy]
   rintro rfl
   exact hdl hx⟩⟩
 have h3 := cntG_less h2
 rw [List.length_append, List.length_singleton] at h3
 rw [cntG_congr (H := fun e => !(l ++ [d]).contains e) fun e _ => ?_]
 ·omega
 ·by_cases q : e = d
  ·rw [if_pos q, q]; simp
  ·rw [if_neg q]
   have hq : (l ++ [d]).contains e = l.contains e := by
    rw [Bool.eq_iff_iff, List.contains_iff_mem, List.contains_iff_mem, List.mem_append, List.mem_singleton]
    exact ⟨fun r => r.elim id (fun r => absurd r q), .inl⟩
   rw [hq]
end Go.Proofs.YtajdholblmdnjaaGreatDoor

/-
  Layer 13's laws, as plain data: another stripe's name, drives that die one by one, new ones for those that are dead, what Mend makes, and a crash. Nothing of the program.
-/
import Derived.Test.YtajdholblmdnjaaGreatDoorEdr
set_option linter.unusedVariables false
namespace Go.Proofs.YtajdholblmdnjaaGreatDoor
open Go.RowKit Go.Proofs
theorem cntG_none {n : Nat} : cntG n (fun _ => false) = 0 := by
 unfold cntG
 rw [List.countP_eq_zero]
 intro d _
 simp
theorem cntG_in {n : Nat} {l : List Nat} (h : Dist n l) : cntG n (fun d => l.contains d) = l.length := by
 have h1 := cntG_less h
 have h2 := List.length_eq_countP_add_countP (p := fun d => l.contains d) (l := List.range n)
 rw [List.length_range] at h2
 have h3 : cntG n (fun d => !l.contains d) = List.countP (fun d => decide ¬ l.contains d = true) (List.range n) := by
  unfold cntG
  exact List.countP_congr fun d _ => by cases l.contains d <;> simp
 unfold cntG at *
 omega
section
variable {xs : List Dv} {k n N p g g' : Nat} {kd kd' : UInt8} {b b' : List UInt8} {G : Nat → Bool}
theorem Str.other (h : Str xs k n N kd p g b G) (hd : ∀ (d : Nat) (x : Dv), xs[d]? = some x → G d = true ∨ x.gone = true) (hk : 1 ≤ k) (hr : RefOk kd p g b.length (44 * k)) (hne : kd ≠ kd' ∨ g ≠ g') : Str xs k n N kd' p g' b' (fun _ => false) :=
 ⟨h.len, fun d x hx => by
  have hi := h.at_ d x hx
  refine ⟨hi.ok, hi.n, fun e => (by cases e), fun _ => ?_⟩
  rcases hd d x hx with q | q
  ·obtain ⟨h1, h2⟩ := hi.yes q
   exact .inr (by rw [h2]; exact secT_other hr (row13_len hk) hne)
  ·exact .inl q⟩
def failT (l : List Nat) (xs : List Dv) : Nat → List Dv
 | 0 => xs
 | t + 1 => onD (failT l xs t) ((l.getD t 0 : Nat) : Int) (fun x => x.fail)
theorem failT_len {l : List Nat} : ∀ t, (failT l xs t).length = xs.length
 | 0 => rfl
 | t + 1 => by rw [failT, onD_len, failT_len t]
theorem failT_ns {l : List Nat} (hx : ∀ (d : Nat) (x : Dv), xs[d]? = some x → x.Ok ∧ x.n = N) : ∀ t (d : Nat) (x : Dv), (failT l xs t)[d]? = some x → x.Ok ∧ x.n = N
 | 0, d, x, h => hx d x h
 | t + 1, d, x, h => by
  rw [failT] at h
  have ih := failT_ns (l := l) hx t
  rcases ofD_cases (failT l xs t) ((l.getD t 0 : Nat) : Int) with ⟨i, y, e, hy⟩ | hz
  ·by_cases he : (d : Int) = ((l.getD t 0 : Nat) : Int)
   ·have he : d = l.getD t 0 := by omega
    have hi : i = l.getD t 0 := by omega
    subst hi
    subst he
    rw [onD_yes hy, List.getElem?_set_self (get_lt hy)] at h
    injection h with h
    rw [← h]
    exact ⟨Dv.Ok.fail y, by rw [fail_n]; exact (ih _ y hy).2⟩
   ·rw [onD_ne he] at h
    exact ih d x h
  ·rw [onD_no hz] at h
   exact ih d x h
theorem failT_wl {l : List Nat} {c : Nat} (hw : Wl c xs) : ∀ t, Wl c (failT l xs t)
 | 0 => hw
 | t + 1 => onD_wl (failT_wl hw t) (fun x _ => Nat.zero_le _)
theorem failT_live {l : List Nat} (hl : ∀ x ∈ l, x < xs.length) : ∀ t, t ≤ l.length → ∀ d, liveG (failT l xs t) d = (liveG xs d && !(l.take t).contains d)
 | 0, _, d => by simp [failT]
 | t + 1, ht, d => by
  have htl : t < l.length := by omega
  have e : l.getD t 0 = l[t]'htl := by rw [List.getD_eq_getElem?_getD, List.getElem?_eq_getElem htl, Option.getD_some]
  have hlt : l[t]'htl < (failT l xs t).length := by rw [failT_len]; exact hl _ (List.getElem_mem _)
  have hy : (failT l xs t)[l[t]'htl]? = some ((failT l xs t)[l[t]'htl]'hlt) := List.getElem?_eq_getElem hlt
  rw [failT, e, take_next (List.getElem?_eq_getElem htl)]
  have ih := failT_live hl t (by omega) d
  by_cases q : d = l[t]'htl
  ·subst q
   rw [onD_yes hy, liveG_at (List.getElem?_set_self hlt)]
   have hc : (l.take t ++ [l[t]'htl]).contains (l[t]'htl) = true := List.contains_iff_mem.2 (List.mem_append.2 (.inr (List.mem_singleton.2 rfl)))
   rw [hc]
   simp [Dv.fail]
  ·have hq : (l.take t ++ [l[t]'htl]).contains d = (l.take t).contains d := by
    rw [Bool.eq_iff_iff, List.contains_iff_mem, List.contains_iff_mem, List.mem_append, List.mem_singleton]
    exact ⟨fun r => r.elim id (fun r => absurd r q), .inl⟩
   rw [hq, ← ih]
   unfold liveG
   rw [onD_ne (by omega)]
theorem putAll_gone {d : Nat} {x : Dv} (hl : xs.length = n) (h : (putAll k n kd p g b xs)[d]? = some x) : liveG xs d = true ∨ x.gone = true := by
 have hd := get_lt h
 rw [putAll, upTo_len] at hd
 have hy : xs[d]? = some (xs[d]) := List.getElem?_eq_getElem hd
 rw [putAll, upTo_at hy, if_pos (by omega)] at h
 injection h with h
 rw [liveG_at hy]
 cases hg : (xs[d]).gone
 ·exact .inl rfl
 ·rw [Dv.write, if_pos hg] at h
  rw [← h]
  exact .inr hg
def replT (xs : List Dv) (t : Nat) : List Dv := upTo (fun _ x => if x.gone = true then x.replace else x) xs t
theorem replT_len {t : Nat} : (replT xs t).length = xs.length := upTo_len
theorem Str.repl1 (h : Str xs k n N kd p g b G) (hp : p < N) (t : Nat) : Str (replT xs t) k n N kd p g b G := ⟨by rw [replT_len, h.len], fun d x hx => by
 have hd := get_lt hx
 rw [replT_len] at hd
 have hy : xs[d]? = some (xs[d]) := List.getElem?_eq_getElem hd
 rw [replT, upTo_at hy] at hx
 have hi := h.at_ d _ hy
 split at hx
 ·injection hx with hx
  by_cases hg : (xs[d]).gone = true
  ·rw [if_pos hg] at hx
   have hGd : G d = false := by
    cases q : G d
    ·rfl
    ·have := (hi.yes q).1
     rw [hg] at this
     cases this
   rw [← hx, hGd]
   exact Is13.replace hi.n hp full_none
  ·rw [if_neg hg] at hx
   rw [← hx]
   exact hi
 ·injection hx with hx
  rw [← hx]
  exact hi⟩
theorem replT_idle (h : Idle xs) (t : Nat) : Idle (replT xs t) := fun d x hx => by
 have hd := get_lt hx
 rw [replT_len] at hd
 have hy : xs[d]? = some (xs[d]) := List.getElem?_eq_getElem hd
 rw [replT, upTo_at hy] at hx
 split at hx
 ·injection hx with hx
  rw [← hx]
  split
  ·rfl
  ·exact h d _ hy
 ·injection hx with hx
  rw [← hx]
  exact h d _ hy
theorem replT_live (hl : xs.length = n) : ∀ (d : Nat) (x : Dv), (replT xs n)[d]? = some x → x.gone = false := fun d x hx => by
 have hd := get_lt hx
 rw [replT_len] at hd
 have hy : xs[d]? = some (xs[d]) := List.getElem?_eq_getElem hd
 rw [replT, upTo_at hy, if_pos (by omega)] at hx
 injection hx with hx
 rw [← hx]
 split
 ·rfl
 ·rename_i hg
  simpa using hg
theorem replT_here {t : Nat} {x : Dv} (h : xs[t]? = some x) : (replT xs t)[t]? = some x := upTo_here h
theorem replT_yes {t : Nat} {x : Dv} (h : xs[t]? = some x) (hg : x.gone = true) : onD (replT xs t) (t : Int) (fun x => x.replace) = replT xs (t + 1) := by
 have e : (upTo (fun _ x => if x.gone = true then x.replace else x) xs t).set t (if x.gone = true then x.replace else x) = upTo (fun _ x => if x.gone = true then x.replace else x) xs (t + 1) := upTo_set h
 rw [if_pos hg] at e
 rw [onD_yes (replT_here h)]
 exact e
theorem replT_no {t : Nat} {x : Dv} (h : xs[t]? = some x) (hg : x.gone = false) : replT xs t = replT xs (t + 1) := by
 exact (upTo_same (F := fun _ x => if x.gone = true then x.replace else x) h (by show (if x.gone = true then x.replace else x) = x; rw [if_neg (by rw [hg]; decide)])).symm
theorem live_all {d : Nat} (h : ∀ (d : Nat) (x : Dv), xs[d]? = some x → x.gone = false) (hd : d < xs.length) : liveG xs d = true := by
 have hy : xs[d]? = some (xs[d]) := List.getElem?_eq_getElem hd
 rw [liveG_at hy, h d _ hy]
 rfl
def mendAll (k n : Nat) (kd : UInt8) (p g : Nat) (b : List UInt8) (G : Nat → Bool) (xs : List Dv) : List Dv := upTo (fun d x => if G d = true then x else x.write (p : Int) (sec13 k n kd p g b d)) xs n
theorem mendAll_len : (mendAll k n kd p g b G xs).length = xs.length := upTo_len
theorem Str.mended (h : Str xs k n N kd p g b G) (hp : p < N) (hk : 1 ≤ k) (hr : RefOk kd p g b.length (44 * k)) (hl : ∀ (d : Nat) (x : Dv), xs[d]? = some x → x.gone = false) : Str (mendAll k n kd p g b G xs) k n N kd p g b (fun _ => true) :=
 h.each fun d x hx hd => by
  have hi := h.at_ d x hx
  cases hG : G d
  ·have := Is13.write (s := sec13 k n kd p g b d) (W := who13 k n kd p g d) hi.ok hi.n hp (sec13_len hk hr)
   rw [hl d x hx] at this
   rw [if_neg (by decide)]
   exact this
  ·rw [if_pos rfl]
   rw [hG] at hi
   exact hi
theorem mendAll_gone (hl : xs.length = n) (h : ∀ (d : Nat) (x : Dv), xs[d]? = some x → x.gone = false) (hx : ∀ (d : Nat) (x : Dv), xs[d]? = some x → x.Ok ∧ x.n = N) (hp : p < N) : ∀ (d : Nat) (x : Dv), (mendAll k n kd p g b G xs)[d]? = some x → x.gone = false := fun d x hq => by
 have hd := get_lt hq
 rw [mendAll_len] at hd
 have hy : xs[d]? = some (xs[d]) := List.getElem?_eq_getElem hd
 rw [mendAll, upTo_at hy, if_pos (by omega)] at hq
 injection hq with hq
 rw [← hq]
 split
 ·exact h d _ hy
 ·unfold Dv.write
  have hg := h d _ hy
  rw [if_neg (by rw [hg]; decide)]
  split
  ·exact hg
  ·exact hg
theorem mendAll_wl {c : Nat} (h : Wl c xs) : Wl (c + 1) (mendAll k n kd p g b G xs) := fun i x hx => by
 have hi := get_lt hx
 rw [mendAll_len] at hi
 have hy : xs[i]? = some (xs[i]) := List.getElem?_eq_getElem hi
 rw [mendAll, upTo_at hy] at hx
 injection hx with hx
 rw [← hx]
 split
 ·split
  ·exact Nat.le_succ_of_le (h i _ hy)
  ·exact write_wait13 _ _ _ c (h i _ hy)
 ·exact Nat.le_succ_of_le (h i _ hy)
theorem mendAll_none : mendAll k n kd p g b (fun _ => true) xs = xs := by
 apply List.ext_getElem
 ·rw [mendAll_len]
 ·intro i h1 h2
  simp [mendAll, upTo]
def Nought (xs : List Dv) (N p : Nat) : Prop := ∀ (d : Nat) (x : Dv), xs[d]? = some x → x.Ok ∧ x.n = N ∧ x.gone = false ∧ x.look p = full 0
theorem Nought.new (hp : p < N) : Nought (List.replicate n (Dv.new N)) N p := fun d x hx => by
 rw [List.getElem?_replicate] at hx
 split at hx
 ·injection hx with hx
  rw [← hx]
  exact ⟨Dv.new_ok N, Dv.new_n N, rfl, Dv.new_look hp⟩
 ·cases hx
theorem Nought.put {o : Nat} (h : Nought xs N p) (ho : o < N) (hne : o ≠ p) (hk : 1 ≤ k) (hr : RefOk kd o g b.length (44 * k)) : Nought (putAll k n kd o g b xs) N p := fun d x hx => by
 have hd := get_lt hx
 rw [putAll_len] at hd
 have hy : xs[d]? = some (xs[d]) := List.getElem?_eq_getElem hd
 obtain ⟨h1, h2, h3, h4⟩ := h d _ hy
 rw [putAll, upTo_at hy] at hx
 injection hx with hx
 rw [← hx]
 split
 ·have hw := Dv.write_yes h3 (has_of h2 ho) (sec13_len (n := n) (b := b) (d := d) hk hr)
  exact ⟨h1.write _ _, by rw [hw]; exact h2, by rw [hw]; exact h3, by rw [Dv.look_write h3 (has_of h2 ho) (sec13_len hk hr), Int.toNat_natCast, if_neg hne]; exact h4⟩
 ·exact ⟨h1, h2, h3, h4⟩
theorem Nought.flush (h : Nought xs N p) (hp : p < N) : Nought (flushS xs n) N p := fun d x hx => by
 have hd := get_lt hx
 rw [flushS_len] at hd
 have hy : xs[d]? = some (xs[d]) := List.getElem?_eq_getElem hd
 obtain ⟨h1, h2, h3, h4⟩ := h d _ hy
 rw [flushS, upTo_at hy] at hx
 injection hx with hx
 rw [← hx]
 split
 ·rw [Dv.flush1, if_neg (by rw [h3]; decide)]
  exact ⟨h1.flush, by rw [Dv.flush_n]; exact h2, by rw [Dv.flush_gone]; exact h3, by rw [Dv.flush_look h1 h3 (by omega)]; exact h4⟩
 ·exact ⟨h1, h2, h3, h4⟩
def Wait1 (xs : List Dv) (N p : Nat) (sec : Nat → List UInt8) : Prop := ∀ (d : Nat) (x : Dv), xs[d]? = some x → x.Ok ∧ x.n = N ∧ x.gone = false ∧ x.wait = [(p, sec d)] ∧ x.st.getD p [] = full 0
theorem Nought.wait (h : Nought xs N p) (hi : Idle xs) (hl : xs.length = n) (hp : p < N) (hk : 1 ≤ k) (hr : RefOk kd p g b.length (44 * k)) : Wait1 (putAll k n kd p g b xs) N p (sec13 k n kd p g b) := fun d x hx => by
 have hd := get_lt hx
 rw [putAll_len] at hd
 have hy : xs[d]? = some (xs[d]) := List.getElem?_eq_getElem hd
 obtain ⟨h1, h2, h3, h4⟩ := h d _ hy
 rw [putAll, upTo_at hy, if_pos (by omega)] at hx
 injection hx with hx
 have hw := Dv.write_yes h3 (has_of h2 hp) (sec13_len (n := n) (b := b) (d := d) hk hr)
 have hok := h1.write (p : Int) (sec13 k n kd p g b d)
 rw [hw] at hx hok
 rw [← hx]
 refine ⟨hok, h2, h3, ?_, ?_⟩
 ·show (xs[d]).wait ++ [((p : Int).toNat, sec13 k n kd p g b d)] = _
  rw [hi d _ hy, Int.toNat_natCast]
  rfl
 ·rw [Dv.look, hi d _ hy] at h4
  exact h4
theorem Str.aside13 {o : Nat} (h : Str xs k n N kd p g b G) (ho : o < N) (hne : o ≠ p) (hk : 1 ≤ k) (hr : RefOk kd' o g' b'.length (44 * k)) : Str (putAll k n kd' o g' b' xs) k n N kd p g b G :=
 h.each fun d x hx _ => (h.at_ d x hx).aside ho hne (sec13_len hk hr)
theorem Str.crashed {kss : List (List Bool)} {on : Nat → Bool} (hl : xs.length = n) (h : Wait1 xs N p (sec13 k n kd p g b)) (hp : p < N) (hk : ∀ d, d < n → (kss.getD d []).getD 0 false = on d) : Str (crashS xs kss n) k n N kd p g b on := ⟨by rw [crashS, upTo_len, hl], fun d x hx => by
 have hd := get_lt hx
 rw [crashS, upTo_len] at hd
 have hy : xs[d]? = some (xs[d]) := List.getElem?_eq_getElem hd
 obtain ⟨h1, h2, h3, h4, h5⟩ := h d _ hy
 rw [crashS, upTo_at hy, if_pos (by omega)] at hx
 injection hx with hx
 rw [← hx, ← hk d (by omega)]
 exact Is13.crash h1 h2 h3 hp h4 (by rw [h5]; exact full_none) _⟩
theorem Str.crash_aside13 {kss : List (List Bool)} {o : Nat} {sec : Nat → List UInt8} (h : Str xs k n N kd p g b G) (hw : Wait1 xs N o sec) (hp : p < N) (hne : o ≠ p) : Str (crashS xs kss n) k n N kd p g b G :=
 h.each fun d x hx _ => (h.at_ d x hx).crash_aside hp hne (hw d x hx).2.2.2.1 _
theorem Wait1.wl {sec : Nat → List UInt8} {c : Nat} (h : Wait1 xs N p sec) (hc : 1 ≤ c) : Wl c xs := fun d x hx => by rw [(h d x hx).2.2.2.1]; exact hc
theorem crashS_len {kss : List (List Bool)} : (crashS xs kss n).length = xs.length := upTo_len
theorem crashS_idle {kss : List (List Bool)} (hl : xs.length = n) : Idle (crashS xs kss n) := fun d x hx => by
 have hd := get_lt hx
 rw [crashS_len] at hd
 have hy : xs[d]? = some (xs[d]) := List.getElem?_eq_getElem hd
 rw [crashS, upTo_at hy, if_pos (by omega)] at hx
 injection hx with hx
 rw [← hx]
 rfl
end
end Go.Proofs.YtajdholblmdnjaaGreatDoor

/-
  A stripe over drives as plain data (layer 13): on which drive a shard lies, what a drive reads at the stripe's place, and what becomes of it when the drive is written, flushed, spoilt, dead, new, or behind a crash. No program. And what goes with it below the laws of layer 13. No condition but what each theorem says.
-/
import Derived.Test.YtokbhgbajdomnaaGreatDoorJa
import Derived.Test.YtokbhgbajdomnaaGreatDoorLa
import Derived.Test.YtokbhgbajdomnaaGreatDoorLc
import Derived.Test.YtokbhgbajdomnaaGreatDoorGa
import Derived.Deep.QuietTactic
import Derived.BigQuiet
import Derived.Test.YtokbhgbajdomnaaGreatDoorHc
import Derived.Deep.RegionHeld3
import Derived.Test.YtokbhgbajdomnaaGreatDoorKb
import Derived.Lib.SlBytesConst
set_option linter.unusedVariables false
namespace Go.Proofs.YtokbhgbajdomnaaGreatDoor
section
open Go.RowKit Go.Proofs
def homeN (n p i : Nat) : Nat := (p % n + i % n) % n
def idxN (n p d : Nat) : Nat := (d + (n - p % n)) % n
theorem home_lt {n p i : Nat} (hn : 0 < n) : homeN n p i < n := Nat.mod_lt _ hn
theorem idx_lt13 {n p d : Nat} (hn : 0 < n) : idxN n p d < n := Nat.mod_lt _ hn
theorem mod_once {n x : Nat} (h1 : n ≤ x) (h2 : x < 2 * n) : x % n = x - n := by
 rw [Nat.mod_eq_sub_mod h1, Nat.mod_eq_of_lt (by omega)]
theorem home_idx {n p d : Nat} (hd : d < n) : homeN n p (idxN n p d) = d := by
 have hq : p % n < n := Nat.mod_lt _ (by omega)
 unfold homeN idxN
 rw [Nat.mod_mod]
 rcases Nat.lt_or_ge d (p % n) with h | h
 ·rw [Nat.mod_eq_of_lt (show d + (n - p % n) < n by omega), mod_once (by omega) (by omega)]
  omega
 ·rw [mod_once (show n ≤ d + (n - p % n) by omega) (by omega), Nat.mod_eq_of_lt (by omega)]
  omega
theorem idx_home {n p i : Nat} (hi : i < n) : idxN n p (homeN n p i) = i := by
 have hq : p % n < n := Nat.mod_lt _ (by omega)
 unfold homeN idxN
 rw [Nat.mod_eq_of_lt hi]
 rcases Nat.lt_or_ge (p % n + i) n with h | h
 ·rw [Nat.mod_eq_of_lt h, mod_once (by omega) (by omega)]
  omega
 ·rw [mod_once h (by omega), Nat.mod_eq_of_lt (by omega)]
  omega
def secT (kd : UInt8) (p g z : Nat) (row : List UInt8) (i : Nat) : List UInt8 := Sh.sector ⟨kd, UInt8.ofNat i, p, g, z, row⟩
def isWhole (kd : UInt8) (p g i R : Nat) (l : List UInt8) : Prop := getE l = 0 ∧ isB (shardOf l) kd (p : Int) g (i : Int) = true ∧ (shardOf l).size ≤ R
structure RefOk (kd : UInt8) (p g z R : Nat) : Prop where
 k1 : 1 ≤ kd.toNat
 k4 : kd.toNat ≤ 4
 p : p < 65536
 g : g < 18446744073709551616
 z : z ≤ R
 R : R < 65536
section
variable {kd : UInt8} {p g z R i : Nat} {row : List UInt8}
theorem secT_ok (h : RefOk kd p g z R) (hr : row.length = 44) : (Sh.mk kd (UInt8.ofNat i) p g z row).Ok ∧ (Sh.mk kd (UInt8.ofNat i) p g z row).kn = true := by
 have := h.z
 have := h.R
 refine ⟨⟨h.p, h.g, by show z < 65536; omega, hr⟩, ?_⟩
 have h1 := h.k1
 have h4 := h.k4
 simp [Sh.kn, h1, h4]
theorem secT_len (h : RefOk kd p g z R) (hr : row.length = 44) : (secT kd p g z row i).length = 64 := (secT_ok h hr).1.sector_len
theorem secT_get (h : RefOk kd p g z R) (hr : row.length = 44) : getE (secT kd p g z row i) = 0 ∧ shardOf (secT kd p g z row i) = ⟨kd, UInt8.ofNat i, p, g, z, row⟩ := by
 obtain ⟨h1, h2⟩ := secT_ok (i := i) h hr
 obtain ⟨h3, h4⟩ := h1.get_sector h2
 exact ⟨h3, (getS_fine h3).symm.trans h4⟩
theorem spoil_chg (b : List UInt8) (off mask : Nat) (hm : mask < 4294967296) : Dv.spoil b off mask = chg b off (le 4 mask) 4 := by
 apply List.ext_getElem
 ·rw [Dv.spoil_length, chg_length]
 ·intro j h1 h2
  rw [chg_length] at h2
  simp only [Dv.spoil, chg, List.getElem_map, List.getElem_range, List.getElem_mapIdx]
  have e : b.getD j 0 = b[j] := by simp [h2]
  rw [e]
  by_cases hj : off ≤ j ∧ j < off + 4
  ·rw [if_pos hj, if_pos hj, le_getD mask 4 (j - off) (by omega)]
   congr 2
   rw [Nat.shiftRight_eq_div_pow, Nat.pow_mul]
  ·rw [if_neg hj, if_neg hj]
theorem secT_spoilt (h : RefOk kd p g z R) (hr : row.length = 44) {off mask : Nat} (ho : off ≤ 60) (hm0 : mask ≠ 0) (hm : mask < 4294967296) {kd' : UInt8} {p' g' j R' : Nat} : ¬ isWhole kd' p' g' j R' (Dv.spoil (secT kd p g z row i) off mask) := by
 rintro ⟨h1, _⟩
 have hl : (Sh.mk kd (UInt8.ofNat i) p g z row).head.length = 60 := (secT_ok (i := i) h hr).1.head_len
 have hmw : ((BitVec.ofNat 32 mask : W32)).toNat = mask := by rw [BitVec.toNat_ofNat]; exact Nat.mod_eq_of_lt (by omega)
 have := burst_err hl (k := off) (by omega) (mask := BitVec.ofNat 32 mask) (fun e => hm0 (by rw [← hmw, e]; rfl))
 rw [hmw] at this
 rw [spoil_chg _ _ _ hm] at h1
 rw [show getE (chg (secT kd p g z row i) off (le 4 mask) 4) = 4 from this] at h1
 cases h1
theorem full_none {j : Nat} : ¬ isWhole kd p g j R (full 0) := by
 rintro ⟨h1, _⟩
 have h2 := (sector_shardOf h1).2
 have h3 : (shardOf (full 0)).kn = false := by decide
 rw [h3] at h2
 cases h2
end
structure Is13 (x : Dv) (N p : Nat) (s : List UInt8) (W : List UInt8 → Prop) (gd : Bool) : Prop where
 ok : x.Ok
 n : x.n = N
 yes : gd = true → x.gone = false ∧ x.look p = s
 no : gd = false → x.gone = true ∨ ¬ W (x.look p)
section
variable {x : Dv} {N p : Nat} {s : List UInt8} {W : List UInt8 → Prop} {gd : Bool}
theorem Is13.new (hp : p < N) (hW : ¬ W (full 0)) : Is13 (Dv.new N) N p s W false :=
 ⟨Dv.new_ok N, Dv.new_n N, fun h => (by cases h), fun _ => .inr (by rw [Dv.new_look hp]; exact hW)⟩
theorem has_of (hn : x.n = N) (hp : p < N) : x.has (p : Int) := ⟨by omega, by omega⟩
theorem Is13.write (ho : x.Ok) (hn : x.n = N) (hp : p < N) (hs : s.length = 64) : Is13 (x.write (p : Int) s) N p s W (!x.gone) := by
 refine ⟨ho.write _ _, ?_, fun h => ?_, fun h => ?_⟩
 ·cases hg : x.gone
  ·rw [Dv.write_yes hg (has_of hn hp) hs]; exact hn
  ·rw [Dv.write, if_pos hg]; exact hn
 ·have hg : x.gone = false := by simpa using h
  refine ⟨by rw [Dv.write_yes hg (has_of hn hp) hs]; exact hg, ?_⟩
  rw [Dv.look_write hg (has_of hn hp) hs, Int.toNat_natCast, if_pos rfl]
 ·have hg : x.gone = true := by simpa using h
  left
  rw [Dv.write, if_pos hg]
  exact hg
theorem Is13.aside (h : Is13 x N p s W gd) {o : Nat} {t : List UInt8} (ho : o < N) (hne : o ≠ p) (ht : t.length = 64) : Is13 (x.write (o : Int) t) N p s W gd := by
 cases hg : x.gone
 ·have hl : (x.write (o : Int) t).look p = x.look p := by rw [Dv.look_write hg (has_of h.n ho) ht, Int.toNat_natCast, if_neg hne]
  have hg2 : (x.write (o : Int) t).gone = false := by rw [Dv.write_yes hg (has_of h.n ho) ht]; exact hg
  refine ⟨h.ok.write _ _, by rw [Dv.write_yes hg (has_of h.n ho) ht]; exact h.n, fun e => ⟨hg2, by rw [hl]; exact (h.yes e).2⟩, fun e => ?_⟩
  rw [hl, hg2]
  rw [← hg]
  exact h.no e
 ·rw [Dv.write, if_pos hg]
  exact h
theorem Is13.flush (h : Is13 x N p s W gd) (hp : p < N) : Is13 x.flush1 N p s W gd := by
 cases hg : x.gone
 ·have e : x.flush1 = x.flush := by rw [Dv.flush1, if_neg (by rw [hg]; decide)]
  rw [e]
  have hl : x.flush.look p = x.look p := Dv.flush_look h.ok hg (by rw [h.n]; exact hp)
  refine ⟨h.ok.flush, by rw [Dv.flush_n]; exact h.n, fun q => ⟨by rw [Dv.flush_gone]; exact hg, by rw [hl]; exact (h.yes q).2⟩, fun q => ?_⟩
  rw [hl, Dv.flush_gone]
  exact h.no q
 ·rw [Dv.flush1, if_pos hg]
  exact h
theorem flush1_wait (ho : x.Ok) : x.flush1.wait = [] := by
 cases hg : x.gone
 ·rw [Dv.flush1, if_neg (by rw [hg]; decide)]; rfl
 ·rw [Dv.flush1, if_pos hg]; exact ho.dead hg
theorem fail_n : x.fail.n = x.n := by simp [Dv.n, Dv.fail]
theorem Is13.fail (hn : x.n = N) : Is13 x.fail N p s W false := ⟨Dv.Ok.fail x, by rw [fail_n]; exact hn, fun h => (by cases h), fun _ => .inl rfl⟩
theorem rot1_n {z off mask : Int} : (x.rot1 z off mask).n = x.n := by
 unfold Dv.rot1
 split
 ·simp [Dv.n, Dv.rotAt]
 ·rfl
theorem Is13.rot (h : Is13 x N p s W true) (hw : x.wait = []) {off mask : Nat} (hp : p < N) (hX : x.rotX (p : Int) (off : Int) (mask : Int) = 0) (hW : ¬ W (Dv.spoil s off mask)) : Is13 (x.rot1 (p : Int) (off : Int) (mask : Int)) N p s W false := by
 obtain ⟨hg, hl⟩ := h.yes rfl
 refine ⟨h.ok.rot1 _ _ _, by rw [rot1_n]; exact h.n, fun e => (by cases e), fun _ => .inr ?_⟩
 have e : x.rot1 (p : Int) (off : Int) (mask : Int) = x.rotAt p off mask := by
  rw [Dv.rot1, if_pos hX, Int.toNat_natCast, Int.toNat_natCast, Int.toNat_natCast]
 have hst : x.st.getD p [] = s := by
  rw [← hl, Dv.look, hw]
  rfl
 have hlen : p < x.st.length := by rw [(h.ok.live hg).1, h.n]; exact hp
 rw [e, Dv.look, show (x.rotAt p off mask).wait = [] from hw]
 show ¬ W ((x.st.set p (Dv.spoil (x.st.getD p []) off mask)).getD p [])
 rw [hst, List.getD_eq_getElem?_getD, List.getElem?_set_self hlen]
 exact hW
end
end
section
open Go.RowKit Go.Proofs
theorem dn13 {B : Nat} {a w : World} (h : Below B a w) (n : Nat) : Below B a (w.drewN n) := ⟨h.os, h.tape, h.output, h.size, h.block⟩
end
section
open Go.RowKit Go.Proofs
section
variable {Rep : World → (Nat → Prop) → Nat → Dv → Prop}
end
end
section
open Go.RowKit Go.Proofs
def cntG (n : Nat) (G : Nat → Bool) : Nat := (List.range n).countP G
theorem cntG_congr {n : Nat} {G H : Nat → Bool} (h : ∀ d, d < n → G d = H d) : cntG n G = cntG n H := by
 unfold cntG
 exact List.countP_congr fun d hd => by rw [h d (List.mem_range.1 hd)]
theorem cntG_all {n : Nat} {G : Nat → Bool} (h : ∀ d, d < n → G d = true) : cntG n G = n := by
 unfold cntG
 rw [List.countP_eq_length.2 fun d hd => h d (List.mem_range.1 hd), List.length_range]
theorem cntG_home (n p : Nat) (G : Nat → Bool) : cntG n (fun i => G (homeN n p i)) = cntG n G := by
 have hperm : ((List.range n).map (homeN n p)).Perm (List.range n) := by
  refine (List.perm_ext_iff_of_nodup ?_ List.nodup_range).2 fun d => ?_
  ·refine List.pairwise_map.2 (List.Pairwise.imp_of_mem ?_ (List.nodup_range (n := n)))
   intro a b ha hb hne hab
   apply hne
   have ha := List.mem_range.1 ha
   have hb := List.mem_range.1 hb
   rw [← idx_home (p := p) ha, ← idx_home (p := p) hb, hab]
  ·rw [List.mem_map, List.mem_range]
   constructor
   ·rintro ⟨i, hi, rfl⟩
    exact home_lt (by have := List.mem_range.1 hi; omega)
   ·intro hd
    exact ⟨idxN n p d, List.mem_range.2 (idx_lt13 (by omega)), home_idx hd⟩
 have := hperm.countP_eq G
 rw [List.countP_map] at this
 exact this
def row13 (k : Nat) (b : List UInt8) (i : Nat) : List UInt8 := shard k (cutL b 44 k) i
theorem row13_len {k i : Nat} {b : List UInt8} (hk : 1 ≤ k) : (row13 k b i).length = 44 := by
 unfold row13 shard
 have h : ((cutL b 44 k).getD 0 []).length = 44 := cut_rows b 44 k _ (by
  rw [List.getD_eq_getElem?_getD, List.getElem?_eq_getElem (by rw [cutL_length]; omega), Option.getD_some]
  exact List.getElem_mem _)
 rw [h, sumR_length]
def sec13 (k n : Nat) (kd : UInt8) (p g : Nat) (b : List UInt8) (d : Nat) : List UInt8 := secT kd p g b.length (row13 k b (idxN n p d)) (idxN n p d)
def who13 (k n : Nat) (kd : UInt8) (p g : Nat) (d : Nat) : List UInt8 → Prop := isWhole kd p g (idxN n p d) (44 * k)
theorem sec13_len {k n : Nat} {kd : UInt8} {p g : Nat} {b : List UInt8} {d : Nat} (hk : 1 ≤ k) (h : RefOk kd p g b.length (44 * k)) : (sec13 k n kd p g b d).length = 64 := secT_len h (row13_len hk)
structure Str (xs : List Dv) (k n N : Nat) (kd : UInt8) (p g : Nat) (b : List UInt8) (G : Nat → Bool) : Prop where
 len : xs.length = n
 at_ : ∀ (d : Nat) (x : Dv), xs[d]? = some x → Is13 x N p (sec13 k n kd p g b d) (who13 k n kd p g d) (G d)
section
variable {xs : List Dv} {k n N : Nat} {kd : UInt8} {p g : Nat} {b : List UInt8} {G H : Nat → Bool}
theorem Str.congr (h : Str xs k n N kd p g b G) (he : ∀ d, d < n → G d = H d) : Str xs k n N kd p g b H := ⟨h.len, fun d x hx => by
 have := h.at_ d x hx
 rwa [he d (by have := get_lt hx; have := h.len; omega)] at this⟩
theorem Str.new (hp : p < N) : Str (List.replicate n (Dv.new N)) k n N kd p g b (fun _ => false) := ⟨List.length_replicate .., fun d x hx => by
 rw [List.getElem?_replicate] at hx
 split at hx
 ·injection hx with hx
  rw [← hx]
  exact Is13.new hp full_none
 ·cases hx⟩
theorem Str.each {F : Nat → Dv → Dv} (h : Str xs k n N kd p g b G) (hF : ∀ (d : Nat) (x : Dv), xs[d]? = some x → d < n → Is13 (F d x) N p (sec13 k n kd p g b d) (who13 k n kd p g d) (H d)) : Str (upTo F xs n) k n N kd p g b H := ⟨by rw [upTo_len, h.len], fun d x hx => by
 have hd := get_lt hx
 rw [upTo_len] at hd
 have hy : xs[d]? = some (xs[d]) := List.getElem?_eq_getElem hd
 rw [upTo_at hy] at hx
 have hn : d < n := by rw [← h.len]; exact hd
 rw [if_pos hn] at hx
 injection hx with hx
 rw [← hx]
 exact hF d _ hy hn⟩
theorem Str.one {f : Dv → Dv} {d : Nat} {v : Bool} (h : Str xs k n N kd p g b G) (hd : d < n) (hf : ∀ x, xs[d]? = some x → Is13 (f x) N p (sec13 k n kd p g b d) (who13 k n kd p g d) v) : Str (onD xs (d : Int) f) k n N kd p g b (fun e => if e = d then v else G e) := ⟨by rw [onD_len, h.len], fun e x hx => by
 have hy : xs[d]? = some (xs[d]'(by rw [h.len]; exact hd)) := List.getElem?_eq_getElem _
 by_cases he : e = d
 ·subst he
  rw [if_pos rfl]
  rw [onD_yes hy, List.getElem?_set_self (by rw [h.len]; exact hd)] at hx
  injection hx with hx
  rw [← hx]
  exact hf _ hy
 ·rw [if_neg he]
  rw [onD_ne (by omega)] at hx
  exact h.at_ e x hx⟩
end
end
section
open Go.RowKit Go.Proofs
def Idle (xs : List Dv) : Prop := ∀ (d : Nat) (x : Dv), xs[d]? = some x → x.wait = []
theorem Idle.new {n N : Nat} : Idle (List.replicate n (Dv.new N)) := fun d x hx => by
 rw [List.getElem?_replicate] at hx
 split at hx
 ·injection hx with hx; rw [← hx]; rfl
 ·cases hx
theorem Idle.one {xs : List Dv} {z : Int} {f : Dv → Dv} (h : Idle xs) (hf : ∀ x, x.wait = [] → (f x).wait = []) : Idle (onD xs z f) := by
 rcases ofD_cases xs z with ⟨i, x, rfl, hx⟩ | hz
 ·intro e y hy
  by_cases he : (e : Int) = (i : Int)
  ·have he : e = i := by omega
   subst he
   rw [onD_yes hx, List.getElem?_set_self (get_lt hx)] at hy
   injection hy with hy
   rw [← hy]
   exact hf _ (h _ _ hx)
  ·rw [onD_ne he] at hy
   exact h e y hy
 ·rw [onD_no hz]; exact h
theorem fail_wait {x : Dv} : x.fail.wait = [] := rfl
theorem rot1_wait {x : Dv} {z off mask : Int} : (x.rot1 z off mask).wait = x.wait := by
 unfold Dv.rot1
 split
 ·rfl
 ·rfl
section
variable {xs : List Dv} {k n N : Nat} {kd : UInt8} {p g : Nat} {b : List UInt8} {G H : Nat → Bool}
def putAll (k n : Nat) (kd : UInt8) (p g : Nat) (b : List UInt8) (xs : List Dv) : List Dv := upTo (fun d x => x.write (p : Int) (sec13 k n kd p g b d)) xs n
def liveG (xs : List Dv) (d : Nat) : Bool := match xs[d]? with | some x => !x.gone | none => false
theorem liveG_at {d : Nat} {x : Dv} (h : xs[d]? = some x) : liveG xs d = !x.gone := by rw [liveG, h]
theorem Str.put (hl : xs.length = n) (ho : ∀ (d : Nat) (x : Dv), xs[d]? = some x → x.Ok ∧ x.n = N) (hk : 1 ≤ k) (hr : RefOk kd p g b.length (44 * k)) (hp : p < N) : Str (putAll k n kd p g b xs) k n N kd p g b (liveG xs) := ⟨by rw [putAll, upTo_len, hl], fun d x hx => by
 have hd := get_lt hx
 rw [putAll, upTo_len] at hd
 have hy : xs[d]? = some (xs[d]) := List.getElem?_eq_getElem hd
 rw [putAll, upTo_at hy, if_pos (by rw [← hl]; exact hd)] at hx
 injection hx with hx
 rw [← hx, liveG_at hy]
 exact Is13.write (ho d _ hy).1 (ho d _ hy).2 hp (sec13_len hk hr)⟩
theorem Str.flush (h : Str xs k n N kd p g b G) (hp : p < N) : Str (flushS xs n) k n N kd p g b G := h.each fun d x hx _ => (h.at_ d x hx).flush hp
theorem flushS_idle (hl : xs.length = n) (ho : ∀ (d : Nat) (x : Dv), xs[d]? = some x → x.Ok) : Idle (flushS xs n) := fun d x hx => by
 have hd := get_lt hx
 rw [flushS, upTo_len] at hd
 have hy : xs[d]? = some (xs[d]) := List.getElem?_eq_getElem hd
 rw [flushS, upTo_at hy, if_pos (by rw [← hl]; exact hd)] at hx
 injection hx with hx
 rw [← hx]
 exact flush1_wait (ho d _ hy)
theorem Str.fail (h : Str xs k n N kd p g b G) {d : Nat} (hd : d < n) : Str (onD xs (d : Int) (fun x => x.fail)) k n N kd p g b (fun e => if e = d then false else G e) := h.one hd fun x hx => Is13.fail (h.at_ d x hx).n
end
end
section
open Go.RowKit Go.Proofs
def Small13 (k m s : Int) : Prop := 1 ≤ k ∧ 1 ≤ m ∧ k + m ≤ 10 ∧ 1 ≤ s ∧ s ≤ 8
instance (k m s : Int) : Decidable (Small13 k m s) := by unfold Small13; infer_instance
section
variable {Rep : World → (Nat → Prop) → Nat → Dv → Prop}
def RetMade (Rep : World → (Nat → Prop) → Nat → Dv → Prop) (k m s : Nat) (w : World) (e : Ending) (w' : World) : Prop :=
 ∃ A S C F T, e = .returned (.tuple #[.pointer (some ⟨A, 0, none⟩), .pointer (some ⟨C, 0, none⟩)]) ∧ AP Rep w' S A (List.replicate (k + m) (Dv.new s)) ∧ Cod w' C k m F T ∧ Below w.heap.size w w' ∧
  (∀ b, S b → w.heap.size ≤ b ∧ b < C ∧ b < F ∧ b < T) ∧ w.heap.size ≤ C ∧ w.heap.size ≤ F ∧ w.heap.size ≤ T
end
end
section
open Go.RowKit Go.Proofs
structure Ap13 (S : Nat → Prop) (C F T : Nat) : Prop where
 c : ¬ S C
 f : ¬ S F
 t : ¬ S T
theorem Ap13.next {S S' : Nat → Prop} {C F T : Nat} {w w' : World} (h : Ap13 S C F T) (hn : Nxt S S' w w') (hC : C < w.heap.size) (hF : F < w.heap.size) (hT : T < w.heap.size) : Ap13 S' C F T :=
 ⟨fun q => (hn.2 _ q).elim h.c (fun r => by omega), fun q => (hn.2 _ q).elim h.f (fun r => by omega), fun q => (hn.2 _ q).elim h.t (fun r => by omega)⟩
structure Ac13 (Rep : World → (Nat → Prop) → Nat → Dv → Prop) (w : World) (S : Nat → Prop) (A C k m F T N : Nat) (xs : List Dv) : Prop where
 a : AP Rep w S A xs
 c : Cod w C k m F T
 ap : Ap13 S C F T
 len : xs.length = k + m
 n : ∀ (d : Nat) (x : Dv), xs[d]? = some x → x.Ok ∧ x.n = N
 wl : Wl 1000 xs
 nt : Nt w
 ng : ¬ S 1
theorem Nt.lt13 {w : World} (h : Nt w) : 1 < w.heap.size := by
 obtain ⟨t, fr, hb⟩ := h.block
 exact block_lt hb
theorem Nt.fr13 {w w' : World} {S : Nat → Prop} (h : Nt w) (hf : Fr S w w') (hS : ¬ S 1) : Nt w' := by
 have hl := h.lt13
 have hb := hf.block _ hl hS
 unfold Nt World.var? at *
 rw [gNought] at *
 simp only [Option.bind_some] at *
 rw [hb]
 exact h
section
variable {Rep : World → (Nat → Prop) → Nat → Dv → Prop} {w w' : World} {S S' : Nat → Prop} {A C k m F T N : Nat} {xs ys : List Dv}
theorem Ac13.later (DK : DrvK Rep) (h : Ac13 Rep w S A C k m F T N xs) (hb : Below w.heap.size w w') : Ac13 Rep w' S A C k m F T N xs := ⟨h.a.later DK.lay hb, h.c.later hb, h.ap, h.len, h.n, h.wl, h.nt.keep hb, h.ng⟩
theorem Cod.fr {U : Nat → Prop} (h : Cod w C k m F T) (hf : Fr U w w') (h1 : ¬ U C) (h2 : ¬ U F) (h3 : ¬ U T) : Cod w' C k m F T := ⟨hf.row_some h.row h1, h.fld.fr hf h2 h3, h.k1, h.m1, h.n255⟩
theorem Ac13.mut (h : Ac13 Rep w S A C k m F T N xs) (hm : MutA Rep S A ys w w') (hl : ys.length = xs.length) (hn : ∀ (d : Nat) (x : Dv), ys[d]? = some x → x.Ok ∧ x.n = N) (hw : Wl 1000 ys) : ∃ S', Ac13 Rep w' S' A C k m F T N ys ∧ Nxt S S' w w' := by
 obtain ⟨S', ha, hx⟩ := hm
 have hC : C < w.heap.size := block_lt h.c.row
 have hF : F < w.heap.size := World.block_lt_of_cell? w _ h.c.fld.cell
 have hT : T < w.heap.size := h.c.fld.fld.ltT
 exact ⟨S', ⟨ha, h.c.fr hx.1 h.ap.c h.ap.f h.ap.t, h.ap.next hx hC hF hT, hl.trans h.len, hn, hw, h.nt.fr13 hx.1 h.ng, fun q => (hx.2 _ q).elim h.ng (fun r => by have := h.nt.lt13; omega)⟩, hx⟩
structure Lc13 (Rep : World → (Nat → Prop) → Nat → Dv → Prop) (w0 w : World) (S : Nat → Prop) (A C k m F T N : Nat) (xs : List Dv) : Prop where
 ac : Ac13 Rep w S A C k m F T N xs
 lo : ∀ b, S b → w0.heap.size ≤ b
 bel : Below w0.heap.size w0 w
variable {w0 : World}
theorem Lc13.later (DK : DrvK Rep) (h : Lc13 Rep w0 w S A C k m F T N xs) (hb : Below w.heap.size w w') : Lc13 Rep w0 w' S A C k m F T N xs := ⟨h.ac.later DK hb, h.lo, h.bel.trans (hb.mono h.bel.size)⟩
theorem Lc13.mut (h : Lc13 Rep w0 w S A C k m F T N xs) (hm : MutA Rep S A ys w w') (hl : ys.length = xs.length) (hn : ∀ (d : Nat) (x : Dv), ys[d]? = some x → x.Ok ∧ x.n = N) (hw : Wl 1000 ys) : ∃ S', Lc13 Rep w0 w' S' A C k m F T N ys ∧ Nxt S S' w w' := by
 obtain ⟨S', h1, h2⟩ := h.ac.mut hm hl hn hw
 exact ⟨S', ⟨h1, fun b hb => (h2.2 b hb).elim (h.lo b) (fun q => by have := h.bel.size; omega), h.bel.trans (h2.1.below h.bel.size h.lo)⟩, h2⟩
theorem Lc13.made {w : World} {k m s : Nat} {e : Ending} {w' : World} (h : RetMade Rep k m s w e w') (hb : Below w0.heap.size w0 w) (hN : Nt w) : ∃ A S C F T, e = .returned (.tuple #[.pointer (some ⟨A, 0, none⟩), .pointer (some ⟨C, 0, none⟩)]) ∧ Lc13 Rep w0 w' S A C k m F T s (List.replicate (k + m) (Dv.new s)) ∧ (∀ b, S b → w.heap.size ≤ b) ∧ Below w.heap.size w w' := by
 obtain ⟨A, S, C, F, T, he, ha, hc, hbel, hS, _, _, _⟩ := h
 refine ⟨A, S, C, F, T, he, ⟨⟨ha, hc, ⟨fun q => ?_, fun q => ?_, fun q => ?_⟩, List.length_replicate .., fun d x hx => ?_, fun d x hx => ?_, hN.keep hbel, fun q => ?_⟩, fun b hb' => ?_, hb.trans (hbel.mono hb.size)⟩, fun b hb' => (hS b hb').1, hbel⟩
 ·have := (hS _ q).2.1; omega
 ·have := (hS _ q).2.2.1; omega
 ·have := (hS _ q).2.2.2; omega
 ·rw [List.getElem?_replicate] at hx
  split at hx
  ·injection hx with hx; rw [← hx]; exact ⟨Dv.new_ok s, Dv.new_n s⟩
  ·cases hx
 ·rw [Idle.new d x hx]; exact Nat.zero_le _
 ·have := (hS _ q).1; have := hN.lt13; omega
 ·have := (hS b hb').1; have := hb.size; omega
theorem Str.ns {kd : UInt8} {p g n : Nat} {b : List UInt8} {G : Nat → Bool} (h : Str xs k n N kd p g b G) (d : Nat) (x : Dv) (hx : xs[d]? = some x) : x.Ok ∧ x.n = N := ⟨(h.at_ d x hx).ok, (h.at_ d x hx).n⟩
theorem Wl.mono13 {c c' : Nat} {xs : List Dv} (h : Wl c xs) (hk : c ≤ c') : Wl c' xs := fun i x hx => Nat.le_trans (h i x hx) hk
theorem write_wait13 (x : Dv) (z : Int) (l : List UInt8) (c : Nat) (h : x.wait.length ≤ c) : (x.write z l).wait.length ≤ c + 1 := by
 unfold Dv.write
 split
 ·exact Nat.le_succ_of_le h
 ·split
  ·rw [List.length_append, List.length_singleton]; omega
  ·exact Nat.le_succ_of_le h
theorem putAll_wl {kd : UInt8} {p g n c : Nat} {b : List UInt8} (h : Wl c xs) : Wl (c + 1) (putAll k n kd p g b xs) := fun i x hx => by
 have hi := get_lt hx
 rw [putAll, upTo_len] at hi
 have hy : xs[i]? = some (xs[i]) := List.getElem?_eq_getElem hi
 rw [putAll, upTo_at hy] at hx
 injection hx with hx
 rw [← hx]
 split
 ·exact write_wait13 _ _ _ c (h i _ hy)
 ·exact Nat.le_succ_of_le (h i _ hy)
theorem onD_wl {z : Int} {c : Nat} {f : Dv → Dv} (h : Wl c xs) (hf : ∀ x, x.wait.length ≤ c → (f x).wait.length ≤ c) : Wl c (onD xs z f) := by
 rcases ofD_cases xs z with ⟨i, x, rfl, hx⟩ | hz
 ·intro e y hy
  by_cases he : (e : Int) = (i : Int)
  ·have he : e = i := by omega
   subst he
   rw [onD_yes hx, List.getElem?_set_self (get_lt hx)] at hy
   injection hy with hy
   rw [← hy]
   exact hf _ (h _ _ hx)
  ·rw [onD_ne he] at hy
   exact h e y hy
 ·rw [onD_no hz]; exact h
end
end
section
open Go.RowKit Go.Proofs
def Rf13 (w : World) (B : Nat) (k p g : Int) : Prop := w.heap[B]? = some (.cells #[.int .u8 k, .int .i64 p, .int .u64 g] 99 (0, 0))
theorem size_ref13 (k p g : Int) : (Tryz.prog.info? 99).map (·.size) = some (#[Value.int .u8 k, .int .i64 p, .int .u64 g] : Array Value).size := by
 show _ = some 3
 kernel_rfl
theorem step_ref13 {ρ : Operand → Value} {o : Oper} {x : Operand} {w : World} {B : Nat} {k p g : Int} (ho : o.op = .load 99 x) (hx : ρ x = .pointer (some ⟨B, 0, none⟩)) (h : Rf13 w B k p g) : (execOp ρ o).run Tryz.prog w = .ok (.value (.agg #[.int .u8 k, .int .i64 p, .int .u64 g])) w := by
 unfold execOp
 simp only [ho, hx, Instr.loadAt, Instr.sureAddr, Sem.run_bind, Sem.run_pure, Result.andThen_ok, run_loadVar_row w B _ 99 #[.int .u8 k, .int .i64 p, .int .u64 g] (0, 0) _ h Tryz.underlying99 rfl (size_ref13 k p g)]
section
variable {Rep : World → (Nat → Prop) → Nat → Dv → Prop}
end
end
end Go.Proofs.YtokbhgbajdomnaaGreatDoor

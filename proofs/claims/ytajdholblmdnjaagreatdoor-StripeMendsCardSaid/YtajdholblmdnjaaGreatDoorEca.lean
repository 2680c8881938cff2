/-
  A stripe over drives as plain data (layer 13): on which drive a shard lies, what a drive reads at the stripe's place, and what becomes of it when the drive is written, flushed, spoilt, dead, new, or behind a crash. No program.
-/
import Derived.Test.YtajdholblmdnjaaGreatDoorJa
import Derived.Test.YtajdholblmdnjaaGreatDoorLa
import Derived.Test.YtajdholblmdnjaaGreatDoorLc
set_option linter.unusedVariables false
namespace Go.Proofs.YtajdholblmdnjaaGreatDoor
open Go.RowKit Go.Proofs
def homeN (n p i : Nat) : Nat := (p % n + i % n) % n
def idxN (n p d : Nat) : Nat := (d + (n - p % n)) % n
theorem home_lt {n p i : Nat} (hn : 0 < n) : homeN n p i < n := Nat.mod_lt _ hn
theorem idx_lt13 {n p d : Nat} (hn : 0 < n) : idxN n p d < n := Nat.mod_lt _ hn
theorem mod_once {n x : Nat} (h1 : n ≤ x) (h2 : x < 2 * n) : x % n = x - n := by
 rw [Nat.mod_eq_sub_mod h1, Nat.mod_eq_of_lt (by omega)]
theorem home_idx {n p d : Nat} (hd : d < n) : homeN n p (idxN n p d) = d := by
 have hq : p % n < n := Nat.mod_lt _ (by omega)
 unfold homeN idxN
 rw [Nat.mod_mod]
 rcases Nat.lt_or_ge d (p % n) with h | h
 ·rw [Nat.mod_eq_of_lt (show d + (n - p % n) < n by omega), mod_once (by omega) (by omega)]
  omega
 ·rw [mod_once (show n ≤ d + (n - p % n) by omega) (by omega), Nat.mod_eq_of_lt (by omega)]
  omega
theorem idx_home {n p i : Nat} (hi : i < n) : idxN n p (homeN n p i) = i := by
 have hq : p % n < n := Nat.mod_lt _ (by omega)
 unfold homeN idxN
 rw [Nat.mod_eq_of_lt hi]
 rcases Nat.lt_or_ge (p % n + i) n with h | h
 ·rw [Nat.mod_eq_of_lt h, mod_once (by omega) (by omega)]
  omega
 ·rw [mod_once h (by omega), Nat.mod_eq_of_lt (by omega)]
  omega
def secT (kd : UInt8) (p g z : Nat) (row : List UInt8) (i : Nat) : List UInt8 := Sh.sector ⟨kd, UInt8.ofNat i, p, g, z, row⟩
def isWhole (kd : UInt8) (p g i R : Nat) (l : List UInt8) : Prop := getE l = 0 ∧ isB (shardOf l) kd (p : Int) g (i : Int) = true ∧ (shardOf l).size ≤ R
structure RefOk (kd : UInt8) (p g z R : Nat) : Prop where
 k1 : 1 ≤ kd.toNat
 k4 : kd.toNat ≤ 4
 p : p < 65536
 g : g < 18446744073709551616
 z : z ≤ R
 R : R < 65536
section
variable {kd : UInt8} {p g z R i : Nat} {row : List UInt8}
theorem secT_ok (h : RefOk kd p g z R) (hr : row.length = 44) : (Sh.mk kd (UInt8.ofNat i) p g z row).Ok ∧ (Sh.mk kd (UInt8.ofNat i) p g z row).kn = true := by
 have := h.z
 have := h.R
 refine ⟨⟨h.p, h.g, by show z < 65536; omega, hr⟩, ?_⟩
 have h1 := h.k1
 have h4 := h.k4
 simp [Sh.kn, h1, h4]
theorem secT_len (h : RefOk kd p g z R) (hr : row.length = 44) : (secT kd p g z row i).length = 64 := (secT_ok h hr).1.sector_len
theorem secT_get (h : RefOk kd p g z R) (hr : row.length = 44) : getE (secT kd p g z row i) = 0 ∧ shardOf (secT kd p g z row i) = ⟨kd, UInt8.ofNat i, p, g, z, row⟩ := by
 obtain ⟨h1, h2⟩ := secT_ok (i := i) h hr
 obtain ⟨h3, h4⟩ := h1.get_sector h2
 exact ⟨h3, (getS_fine h3).symm.trans h4⟩
theorem secT_other {kd' : UInt8} {p' g' : Nat} (h : RefOk kd p g z R) (hr : row.length = 44) (hne : kd ≠ kd' ∨ g ≠ g') : ¬ isWhole kd' p' g' i R (secT kd p g z row i) := by
 rintro ⟨_, h2, _⟩
 rw [(secT_get (i := i) h hr).2] at h2
 have := of_decide_eq_true h2
 rcases hne with e | e
 ·exact e this.1
 ·exact e this.2.2.1
theorem spoil_chg (b : List UInt8) (off mask : Nat) (hm : mask < 4294967296) : Dv.spoil b off mask = chg b off (le 4 mask) 4 := by
 apply List.ext_getElem
 ·rw [Dv.spoil_length, chg_length]
 ·intro j h1 h2
  rw [chg_length] at h2
  simp only [Dv.spoil, chg, List.getElem_map, List.getElem_range, List.getElem_mapIdx]
  have e : b.getD j 0 = b[j] := by simp [h2]
  rw [e]
  by_cases hj : off ≤ j ∧ j < off + 4
  ·rw [if_pos hj, if_pos hj, le_getD mask 4 (j - off) (by omega)]
   congr 2
   rw [Nat.shiftRight_eq_div_pow, Nat.pow_mul]
  ·rw [if_neg hj, if_neg hj]
theorem secT_spoilt (h : RefOk kd p g z R) (hr : row.length = 44) {off mask : Nat} (ho : off ≤ 60) (hm0 : mask ≠ 0) (hm : mask < 4294967296) {kd' : UInt8} {p' g' j R' : Nat} : ¬ isWhole kd' p' g' j R' (Dv.spoil (secT kd p g z row i) off mask) := by
 rintro ⟨h1, _⟩
 have hl : (Sh.mk kd (UInt8.ofNat i) p g z row).head.length = 60 := (secT_ok (i := i) h hr).1.head_len
 have hmw : ((BitVec.ofNat 32 mask : W32)).toNat = mask := by rw [BitVec.toNat_ofNat]; exact Nat.mod_eq_of_lt (by omega)
 have := burst_err hl (k := off) (by omega) (mask := BitVec.ofNat 32 mask) (fun e => hm0 (by rw [← hmw, e]; rfl))
 rw [hmw] at this
 rw [spoil_chg _ _ _ hm] at h1
 rw [show getE (chg (secT kd p g z row i) off (le 4 mask) 4) = 4 from this] at h1
 cases h1
theorem full_none {j : Nat} : ¬ isWhole kd p g j R (full 0) := by
 rintro ⟨h1, _⟩
 have h2 := (sector_shardOf h1).2
 have h3 : (shardOf (full 0)).kn = false := by decide
 rw [h3] at h2
 cases h2
end
structure Is13 (x : Dv) (N p : Nat) (s : List UInt8) (W : List UInt8 → Prop) (gd : Bool) : Prop where
 ok : x.Ok
 n : x.n = N
 yes : gd = true → x.gone = false ∧ x.look p = s
 no : gd = false → x.gone = true ∨ ¬ W (x.look p)
section
variable {x : Dv} {N p : Nat} {s : List UInt8} {W : List UInt8 → Prop} {gd : Bool}
theorem Is13.new (hp : p < N) (hW : ¬ W (full 0)) : Is13 (Dv.new N) N p s W false :=
 ⟨Dv.new_ok N, Dv.new_n N, fun h => (by cases h), fun _ => .inr (by rw [Dv.new_look hp]; exact hW)⟩
theorem has_of (hn : x.n = N) (hp : p < N) : x.has (p : Int) := ⟨by omega, by omega⟩
theorem Is13.write (ho : x.Ok) (hn : x.n = N) (hp : p < N) (hs : s.length = 64) : Is13 (x.write (p : Int) s) N p s W (!x.gone) := by
 refine ⟨ho.write _ _, ?_, fun h => ?_, fun h => ?_⟩
 ·cases hg : x.gone
  ·rw [Dv.write_yes hg (has_of hn hp) hs]; exact hn
  ·rw [Dv.write, if_pos hg]; exact hn
 ·have hg : x.gone = false := by simpa using h
  refine ⟨by rw [Dv.write_yes hg (has_of hn hp) hs]; exact hg, ?_⟩
  rw [Dv.look_write hg (has_of hn hp) hs, Int.toNat_natCast, if_pos rfl]
 ·have hg : x.gone = true := by simpa using h
  left
  rw [Dv.write, if_pos hg]
  exact hg
theorem Is13.aside (h : Is13 x N p s W gd) {o : Nat} {t : List UInt8} (ho : o < N) (hne : o ≠ p) (ht : t.length = 64) : Is13 (x.write (o : Int) t) N p s W gd := by
 cases hg : x.gone
 ·have hl : (x.write (o : Int) t).look p = x.look p := by rw [Dv.look_write hg (has_of h.n ho) ht, Int.toNat_natCast, if_neg hne]
  have hg2 : (x.write (o : Int) t).gone = false := by rw [Dv.write_yes hg (has_of h.n ho) ht]; exact hg
  refine ⟨h.ok.write _ _, by rw [Dv.write_yes hg (has_of h.n ho) ht]; exact h.n, fun e => ⟨hg2, by rw [hl]; exact (h.yes e).2⟩, fun e => ?_⟩
  rw [hl, hg2]
  rw [← hg]
  exact h.no e
 ·rw [Dv.write, if_pos hg]
  exact h
theorem Is13.flush (h : Is13 x N p s W gd) (hp : p < N) : Is13 x.flush1 N p s W gd := by
 cases hg : x.gone
 ·have e : x.flush1 = x.flush := by rw [Dv.flush1, if_neg (by rw [hg]; decide)]
  rw [e]
  have hl : x.flush.look p = x.look p := Dv.flush_look h.ok hg (by rw [h.n]; exact hp)
  refine ⟨h.ok.flush, by rw [Dv.flush_n]; exact h.n, fun q => ⟨by rw [Dv.flush_gone]; exact hg, by rw [hl]; exact (h.yes q).2⟩, fun q => ?_⟩
  rw [hl, Dv.flush_gone]
  exact h.no q
 ·rw [Dv.flush1, if_pos hg]
  exact h
theorem flush1_wait (ho : x.Ok) : x.flush1.wait = [] := by
 cases hg : x.gone
 ·rw [Dv.flush1, if_neg (by rw [hg]; decide)]; rfl
 ·rw [Dv.flush1, if_pos hg]; exact ho.dead hg
theorem fail_n : x.fail.n = x.n := by simp [Dv.n, Dv.fail]
theorem Is13.fail (hn : x.n = N) : Is13 x.fail N p s W false := ⟨Dv.Ok.fail x, by rw [fail_n]; exact hn, fun h => (by cases h), fun _ => .inl rfl⟩
theorem Is13.replace (hn : x.n = N) (hp : p < N) (hW : ¬ W (full 0)) : Is13 x.replace N p s W false := by
 show Is13 (Dv.new x.n) N p s W false
 rw [hn]
 exact Is13.new hp hW
theorem rot1_n {z off mask : Int} : (x.rot1 z off mask).n = x.n := by
 unfold Dv.rot1
 split
 ·simp [Dv.n, Dv.rotAt]
 ·rfl
theorem Is13.rot (h : Is13 x N p s W true) (hw : x.wait = []) {off mask : Nat} (hp : p < N) (hX : x.rotX (p : Int) (off : Int) (mask : Int) = 0) (hW : ¬ W (Dv.spoil s off mask)) : Is13 (x.rot1 (p : Int) (off : Int) (mask : Int)) N p s W false := by
 obtain ⟨hg, hl⟩ := h.yes rfl
 refine ⟨h.ok.rot1 _ _ _, by rw [rot1_n]; exact h.n, fun e => (by cases e), fun _ => .inr ?_⟩
 have e : x.rot1 (p : Int) (off : Int) (mask : Int) = x.rotAt p off mask := by
  rw [Dv.rot1, if_pos hX, Int.toNat_natCast, Int.toNat_natCast, Int.toNat_natCast]
 have hst : x.st.getD p [] = s := by
  rw [← hl, Dv.look, hw]
  rfl
 have hlen : p < x.st.length := by rw [(h.ok.live hg).1, h.n]; exact hp
 rw [e, Dv.look, show (x.rotAt p off mask).wait = [] from hw]
 show ¬ W ((x.st.set p (Dv.spoil (x.st.getD p []) off mask)).getD p [])
 rw [hst, List.getD_eq_getElem?_getD, List.getElem?_set_self hlen]
 exact hW
theorem Is13.crash (ho : x.Ok) (hn : x.n = N) (hg : x.gone = false) (hp : p < N) (hwt : x.wait = [(p, s)]) (hst : ¬ W (x.st.getD p [])) (ks : List Bool) : Is13 (x.crash ks) N p s W (ks.getD 0 false) := by
 have hl := Dv.crash_look ho hg ks (i := p) (by rw [hn]; exact hp)
 rw [hwt, Dv.kept_one] at hl
 refine ⟨ho.crash ks, by rw [Dv.crash_n]; exact hn, fun e => ⟨by rw [Dv.crash_gone]; exact hg, ?_⟩, fun e => .inr ?_⟩
 ·rw [hl, e, if_pos rfl]
  show (match (none : Option (List UInt8)) with | some b => some b | none => if p = p then some s else none).getD _ = s
  simp
 ·rw [hl, e, if_neg (by decide)]
  exact hst
theorem Is13.crash_aside (h : Is13 x N p s W gd) (hp : p < N) {o : Nat} {t : List UInt8} (hne : o ≠ p) (hwt : x.wait = [(o, t)]) (ks : List Bool) : Is13 (x.crash ks) N p s W gd := by
 cases hg : x.gone
 ·have hl := Dv.crash_look h.ok hg ks (i := p) (by rw [h.n]; exact hp)
  rw [hwt, Dv.kept_one] at hl
  have hl2 : (x.crash ks).look p = x.look p := by
   rw [hl, Dv.look, hwt]
   split <;> simp [Dv.lastW, hne]
  refine ⟨h.ok.crash ks, by rw [Dv.crash_n]; exact h.n, fun e => ⟨by rw [Dv.crash_gone]; exact hg, by rw [hl2]; exact (h.yes e).2⟩, fun e => ?_⟩
  rw [hl2, Dv.crash_gone]
  exact h.no e
 ·have := h.ok.dead hg
  rw [hwt] at this
  cases this
end
end Go.Proofs.YtajdholblmdnjaaGreatDoor

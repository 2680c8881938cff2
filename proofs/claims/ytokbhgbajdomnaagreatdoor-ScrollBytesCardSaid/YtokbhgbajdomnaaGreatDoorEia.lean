/-
  Layer 16, plain: how many stripes hold a long text, what each of them says, and drives on which such texts were put. No program.
-/
import Derived.Test.YtokbhgbajdomnaaGreatDoorEha
set_option linter.unusedVariables false
namespace Go.Proofs.YtokbhgbajdomnaaGreatDoor
open Go.RowKit Go.Proofs
def countS (R z : Nat) : Nat := (z - 1) / R + 1
theorem countS_pos {R z : Nat} : 0 < countS R z := Nat.succ_pos _
theorem countS_bound {R z : Nat} (hR : 0 < R) : z ≤ countS R z * R := by
 unfold countS
 have := Nat.div_add_mod (z - 1) R
 have := Nat.mod_lt (z - 1) hR
 rw [Nat.add_mul, Nat.one_mul, Nat.mul_comm]
 omega
theorem countS_last {R z i : Nat} (hR : 0 < R) (h : i < countS R z) : i * R ≤ z := by
 unfold countS at h
 have h1 : i ≤ (z - 1) / R := by omega
 have h2 := (Nat.le_div_iff_mul_le hR).1 h1
 omega
theorem countS_small {R z : Nat} (hR : 34 ≤ R) (h : z ≤ 2000) : countS R z ≤ 60 := by
 unfold countS
 have h1 : (z - 1) / R ≤ 1999 / 34 := Nat.le_trans (Nat.div_le_div_right (by omega)) (Nat.div_le_div_left hR (by decide))
 have h2 : 1999 / 34 = 58 := by decide
 omega
theorem countS_low {R z : Nat} (h : z ≤ R) : countS R z = 1 := by
 unfold countS
 rcases Nat.eq_zero_or_pos R with rfl | hR
 ·obtain rfl : z = 0 := by omega
  rfl
 ·rw [Nat.div_eq_of_lt (by omega)]
theorem countS_step {R z : Nat} (hR : 0 < R) (hz : R < z) : countS R z = countS R (z - R) + 1 := by
 unfold countS
 have e : (z - 1) = (z - R - 1) + R := by omega
 rw [e, Nat.add_div_right _ hR]
def nameL (p g : Nat) : List UInt8 := le 2 p ++ le 8 g
theorem nameL_len {p g : Nat} : (nameL p g).length = 10 := by rw [nameL, List.length_append, le_length, le_length]
def linkL (ps : List Nat) (g i : Nat) : List UInt8 := if i + 1 < ps.length then nameL (ps.getD (i + 1) 0) (g + i + 1) else nameL 0 0
theorem linkL_len {ps : List Nat} {g i : Nat} : (linkL ps g i).length = 10 := by unfold linkL; split <;> exact nameL_len
def leafL (k : Nat) (ps : List Nat) (g : Nat) (b : List UInt8) (i : Nat) : List UInt8 := linkL ps g i ++ pieceL (44 * k - 10) b i
theorem leafL_len {k g i : Nat} {ps : List Nat} {b : List UInt8} : (leafL k ps g b i).length = 10 + min (44 * k - 10) (b.length - i * (44 * k - 10)) := by rw [leafL, List.length_append, linkL_len, piece_len]
theorem leafL_le {k g i : Nat} {ps : List Nat} {b : List UInt8} (hk : 1 ≤ k) : (leafL k ps g b i).length ≤ 44 * k := by
 rw [leafL_len]; omega
theorem leafL_drop {k g i : Nat} {ps : List Nat} {b : List UInt8} : (leafL k ps g b i).drop 10 = pieceL (44 * k - 10) b i := by
 rw [leafL, List.drop_append_of_le_length (by rw [linkL_len]; exact Nat.le_refl _), List.drop_of_length_le (by rw [linkL_len]; exact Nat.le_refl _), List.nil_append]
theorem name_place {p g : Nat} (hp : p < 65536) {r : List UInt8} : leVal ((nameL p g ++ r).take 2) = p := by
 rw [nameL, List.append_assoc, List.take_append_of_le_length (by rw [le_length]; exact Nat.le_refl _), List.take_of_length_le (by rw [le_length]; exact Nat.le_refl _), leVal_le]
 omega
theorem name_gen {p g : Nat} (hg : g < 18446744073709551616) {r : List UInt8} : leVal (((nameL p g ++ r).drop 2).take 8) = g := by
 rw [nameL, List.append_assoc, List.drop_append_of_le_length (by rw [le_length]; exact Nat.le_refl _), List.drop_of_length_le (by rw [le_length]; exact Nat.le_refl _), List.nil_append, List.take_append_of_le_length (by rw [le_length]; exact Nat.le_refl _), List.take_of_length_le (by rw [le_length]; exact Nat.le_refl _), leVal_le]
 have : (256 : Nat) ^ 8 = 18446744073709551616 := by decide
 omega
section
variable {xs : List Dv} {k n N g g' c : Nat} {kd kd' : UInt8} {ps ps' : List Nat} {T T' : Nat → List UInt8} {G : Nat → Nat → Bool}
theorem VOk.refT (h : VOk k N ps g) {i : Nat} (hi : i < ps.length) {b : List UInt8} (h1 : 1 ≤ kd.toNat) (h4 : kd.toNat ≤ 4) (hb : b.length ≤ 44 * k) : RefOk kd (ps.getD i 0) (g + i) b.length (44 * k) :=
 ⟨h1, h4, by have := h.at_ i hi; have := h.Nle; omega, by have := h.gle; omega, hb, h.R⟩
def ValT (xs : List Dv) (k n N : Nat) (kd : UInt8) (ps : List Nat) (g : Nat) (T : Nat → List UInt8) (G : Nat → Nat → Bool) : Prop := ∀ i, i < ps.length → Str xs k n N kd (ps.getD i 0) (g + i) (T i) (G i)
structure TOk (k : Nat) (kd : UInt8) (T : Nat → List UInt8) : Prop where
 k1 : 1 ≤ kd.toNat
 k4 : kd.toNat ≤ 4
 le : ∀ i, (T i).length ≤ 44 * k
theorem leaf_ok {b : List UInt8} (hk : 1 ≤ k) : TOk k 4 (leafL k ps g b) := ⟨by decide, by decide, fun i => leafL_le hk⟩
theorem VOk.rT (h : VOk k N ps g) (ht : TOk k kd T) {i : Nat} (hi : i < ps.length) : RefOk kd (ps.getD i 0) (g + i) (T i).length (44 * k) := h.refT hi ht.k1 ht.k4 (ht.le i)
def putT (k n : Nat) (kd : UInt8) (ps : List Nat) (g : Nat) (T : Nat → List UInt8) (xs : List Dv) : Nat → List Dv
 | 0 => xs
 | i + 1 => putAll k n kd (ps.getD i 0) (g + i) (T i) (putT k n kd ps g T xs i)
theorem putT_len : ∀ i, (putT k n kd ps g T xs i).length = xs.length
 | 0 => rfl
 | i + 1 => by rw [putT, putAll_len, putT_len i]
theorem putT_gone (h : ∀ (d : Nat) (x : Dv), xs[d]? = some x → x.gone = false) : ∀ i (d : Nat) (x : Dv), (putT k n kd ps g T xs i)[d]? = some x → x.gone = false
 | 0 => h
 | i + 1 => by rw [putT]; exact putAll_gone0 (putT_gone h i)
theorem putT_wl (h : Wl c xs) : ∀ i, Wl (c + i) (putT k n kd ps g T xs i)
 | 0 => h
 | i + 1 => by rw [putT]; exact putAll_wl (putT_wl h i)
theorem putT_ns (hv : VOk k N ps g) (ht : TOk k kd T) (hl : xs.length = n) (h : ∀ (d : Nat) (x : Dv), xs[d]? = some x → x.Ok ∧ x.n = N) : ∀ i, i ≤ ps.length → ∀ (d : Nat) (x : Dv), (putT k n kd ps g T xs i)[d]? = some x → x.Ok ∧ x.n = N
 | 0, _ => h
 | i + 1, hi => by
  rw [putT]
  exact (Str.put ((putT_len i).trans hl) (putT_ns hv ht hl h i (by omega)) hv.k1 (hv.rT ht (by omega)) (hv.at_ i (by omega))).ns
theorem putT_aside (hv : VOk k N ps g) (ht : TOk k kd T) {p g' : Nat} {kd' : UInt8} {b' : List UInt8} {H : Nat → Bool} (h : Str xs k n N kd' p g' b' H) (hp : p ∉ ps) : ∀ i, i ≤ ps.length → Str (putT k n kd ps g T xs i) k n N kd' p g' b' H
 | 0, _ => h
 | i + 1, hi => by
  rw [putT]
  refine (putT_aside hv ht h hp i (by omega)).aside13 (hv.at_ i (by omega)) (fun e => hp ?_) hv.k1 (hv.rT ht (by omega))
  rw [← e, List.getD_eq_getElem?_getD, List.getElem?_eq_getElem (by omega)]
  exact List.getElem_mem _
theorem putT_val (hv : VOk k N ps g) (ht : TOk k kd T) (hl : xs.length = n) (h : ∀ (d : Nat) (x : Dv), xs[d]? = some x → x.Ok ∧ x.n = N) (hg : ∀ (d : Nat) (x : Dv), xs[d]? = some x → x.gone = false) : ∀ i, i ≤ ps.length → ∀ j, j < i → Str (putT k n kd ps g T xs i) k n N kd (ps.getD j 0) (g + j) (T j) (fun _ => true)
 | 0, _ => fun j hj => absurd hj (Nat.not_lt_zero j)
 | i + 1, hi => fun j hj => by
  rw [putT]
  by_cases e : j = i
  ·subst e
   refine (Str.put ((putT_len j).trans hl) (putT_ns hv ht hl h j (by omega)) hv.k1 (hv.rT ht (by omega)) (hv.at_ j (by omega))).congr fun d hd => ?_
   exact live_all (putT_gone hg j) (by rw [putT_len, hl]; exact hd)
  ·exact (putT_val hv ht hl h hg i (by omega) j (by omega)).aside13 (hv.at_ i (by omega)) (fun e2 => hv.nd j i (by omega) (by omega) e2.symm) hv.k1 (hv.rT ht (by omega))
theorem putT_all (hv : VOk k N ps g) (ht : TOk k kd T) (hl : xs.length = n) (h : ∀ (d : Nat) (x : Dv), xs[d]? = some x → x.Ok ∧ x.n = N) (hg : ∀ (d : Nat) (x : Dv), xs[d]? = some x → x.gone = false) : ValT (putT k n kd ps g T xs ps.length) k n N kd ps g T (fun _ _ => true) := fun i hi =>
 putT_val hv ht hl h hg ps.length (Nat.le_refl _) i hi
theorem ValT.aside (h : ValT xs k n N kd' ps' g' T' G) (hv : VOk k N ps g) (ht : TOk k kd T) (hd : ∀ p, p ∈ ps' → p ∉ ps) : ValT (putT k n kd ps g T xs ps.length) k n N kd' ps' g' T' G := fun i hi =>
 putT_aside hv ht (h i hi) (hd _ (getD_mem15 hi)) ps.length (Nat.le_refl _)
theorem ValT.flush (h : ValT xs k n N kd ps g T G) (hv : VOk k N ps g) : ValT (flushS xs n) k n N kd ps g T G := fun i hi => (h i hi).flush (hv.at_ i hi)
theorem ValT.failZ {gl : List Int} (h : ValT xs k n N kd ps g T (fun _ _ => true)) : ValT (failZ gl xs gl.length) k n N kd ps g T (fun _ => goodZ gl gl.length) := fun i hi => (h i hi).failZ gl.length (Nat.le_refl _)
def Bare (xs : List Dv) (k n N p : Nat) : Prop := ∀ kd g b, Str xs k n N kd p g b (fun _ => false)
theorem Bare.new {p : Nat} (hp : p < N) : Bare (List.replicate n (Dv.new N)) k n N p := fun kd g b => Str.new hp
theorem Bare.put {p : Nat} (h : Bare xs k n N p) (hv : VOk k N ps g) (ht : TOk k kd T) (hp : p ∉ ps) (i : Nat) (hi : i ≤ ps.length) : Bare (putT k n kd ps g T xs i) k n N p := fun kd' g' b' => putT_aside hv ht (h kd' g' b') hp i hi
end
end Go.Proofs.YtokbhgbajdomnaaGreatDoor

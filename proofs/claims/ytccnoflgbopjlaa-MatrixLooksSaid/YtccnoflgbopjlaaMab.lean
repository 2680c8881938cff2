/-
  Contracts of the document's answers of layer 4: Row, first. No condition.
-/
import Derived.Test.YtccnoflgbopjlaaMaa
namespace Go.Proofs.Ytccnoflgbopjlaa
open Go.RowKit
set_option linter.unusedVariables false

theorem ret_len {A : Option Addr} {n m c : Nat} (h : n = m) : Ending.returned (.slice A n c) = .returned (.slice A m c) := by rw [h]

set_option maxRecDepth 20000 in
set_option maxHeartbeats 800000 in
theorem rrow_any (R C I : Nat) (A : Option Addr) (N cp : Nat) (l : List UInt8) (h2 : R ≤ 255) (h3 : 1 ≤ C) (h4 : C ≤ 255) (hN : N = R * C) (hI : I < R) (w : World) (h : Sl w 1 A N cp (cells l)) :
    Calls Try.prog 35 #[.agg #[.int .i64 (R : Int), .int .i64 (C : Int), .slice A N cp], .int .i64 (I : Int)] w fun e w' => ∃ A' c', e = .returned (.slice A' C c') ∧ Sl w' 1 A' C c' (cells ((l.drop (I * C)).take C)) ∧ Below w.heap.size w w' := by
  have hn := h.lim
  have hcp := h.cap
  have htp := h.top
  unfold maxLen at hn htp
  have hRC : R * C ≤ 255 * 255 := Nat.mul_le_mul h2 h4
  obtain ⟨q, hq⟩ : ∃ q, q = I * C := ⟨_, rfl⟩
  have hq2 : q + C ≤ N := by
    have : (I + 1) * C ≤ R * C := Nat.mul_le_mul_right C hI
    rw [Nat.add_mul, Nat.one_mul] at this
    omega
  have hqi : (I : Int) * (C : Int) = (q : Int) := by rw [hq]; simp
  have hqj : ((I : Int) + 1) * (C : Int) = ((q + C : Nat) : Int) := by rw [Int.add_mul, hqi]; simp
  have hs := h.sub1 q (q + C) (cp - q) (by omega) hq2 (by omega) (by unfold maxLen; omega)
  have hqC : q + C - q = C := by omega
  rw [hqC] at hs
  rw [← hq]
  have Hs := Lib.hid hs; clear hs
  have hne : ¬ cp = q := by omega
  have HqC := Lib.hid hqC
  clear hq hN hqC
  go_enter Try.func35, Try.ntmps35
  go_wp2_with fail
  go_ret
  exact ⟨_, _, ret_len HqC.out, Hs.out.alloc _, (Below.refl _ _).alloc (Nat.le_refl _) _⟩

/-- The place of the first number that isn't 0; -1: all are. -/
def firstI (l : List UInt8) : Int := match l.findIdx? (fun x => x != 0) with | some k => (k : Int) | none => -1
theorem firstI_hit {l : List UInt8} {k : Nat} (hk : k < l.length) (h0 : ∀ j (hj : j < k), l[j]'(by omega) = 0) (h1 : l[k] ≠ 0) : firstI l = (k : Int) := by
  have : l.findIdx? (fun x => x != 0) = some k := by
    rw [List.findIdx?_eq_some_iff_getElem]
    exact ⟨hk, by simpa using h1, fun j hj => by simpa using h0 j hj⟩
  rw [firstI, this]
theorem firstI_none {l : List UInt8} (h0 : ∀ j (hj : j < l.length), l[j] = 0) : firstI l = -1 := by
  have : l.findIdx? (fun x => x != 0) = none := by
    rw [List.findIdx?_eq_none_iff]
    intro x hx
    obtain ⟨j, hj, rfl⟩ := List.mem_iff_getElem.1 hx
    simpa using h0 j hj
  rw [firstI, this]

set_option maxRecDepth 20000 in
set_option maxHeartbeats 800000 in
theorem rfirst_any (A : Option Addr) (n cp : Nat) (l : List UInt8) (w : World) (h : Sl w 1 A n cp (cells l)) :
    Calls Try.prog 45 #[.slice A n cp] w fun e w' => e = .returned (.int .i64 (firstI l)) ∧ w' = w := by
  have hn := h.lim
  unfold maxLen at hn
  have hl := h.len
  rw [cells_length, Nat.mul_one] at hl
  have Hs := Lib.hid h; clear h
  have Hl := Lib.hid hl; clear hl
  go_enter Try.func45, Try.ntmps45
  go_wp2_with fail
  go_loopw [3] (fun i wr => ∃ k : Nat, k ≤ n ∧ i = .int .i64 (k : Int) ∧ (∀ j (hj : j < l.length), j < k → l[j] = 0) ∧ wr = w) (fun i _ => n - (intOf i).toNat)
  case atStart => exact ⟨0, by omega, rfl, fun j _ hj => absurd hj (by omega), rfl⟩
  case round =>
    obtain ⟨k, hk, rfl, hno, rfl⟩ := hrel
    have Hno := Lib.hid hno; clear hno
    by_cases hlt : k < n
    · have hkl : k < l.length := by rw [Hl.out]; exact hlt
      obtain ⟨b, o, rfl, hc⟩ := Hs.out.at_ hlt
      have hcell := hc k _ (cells_get l k hkl)
      have Hc := Lib.hid hc; clear hc
      rw [bv] at hcell
      obtain ⟨x, hx⟩ : ∃ x, x = l[k] := ⟨_, rfl⟩
      rw [← hx] at hcell
      have Hx := Lib.hid hx; clear hx
      by_cases h0 : x = 0
      · have e1 : ((x.toNat : Int) != 0) = false := by rw [h0]; rfl
        have H0 := Lib.hid h0; clear h0
        go_wp2_with fail
        go_roundw
        case rel =>
          refine ⟨k + 1, by omega, by go_num, fun j hj hjk => ?_, trivial⟩
          by_cases hjk' : j = k
          · subst hjk'
            rw [← Hx.out]
            exact H0.out
          · exact Hno.out j hj (by omega)
        case measure => simp [intOf]; omega
      · have e1 : ((x.toNat : Int) != 0) = true := by
          have : x.toNat ≠ 0 := fun e => h0 (UInt8.toNat_inj.1 e)
          simp; omega
        have H0 := Lib.hid h0; clear h0
        go_wp2_with fail
        go_ret
        exact ⟨by rw [firstI_hit hkl (fun j hj => Hno.out j (by omega) hj) (by rw [← Hx.out]; exact H0.out)]; rfl, rfl⟩
    · obtain rfl : k = n := by omega
      go_wp2_with fail
      go_ret
      exact ⟨by rw [firstI_none (fun j hj => Hno.out j hj (by rw [← Hl.out]; exact hj))]; rfl, rfl⟩
end Go.Proofs.Ytccnoflgbopjlaa

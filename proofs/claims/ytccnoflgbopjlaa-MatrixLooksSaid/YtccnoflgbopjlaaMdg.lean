/-
  Contracts of slices.IndexFunc over a matrix's rows, with package matrix's own test. No condition.
-/
import Derived.Test.YtccnoflgbopjlaaMdd
namespace Go.Proofs.Ytccnoflgbopjlaa
open Go.RowKit Go.Proofs
set_option linter.unusedVariables false

theorem u8_bne0 (x : UInt8) : ((x.toNat : Int) != 0) = (x != 0) := by
  by_cases h : x = 0
  · subst h; rfl
  · have : x.toNat ≠ 0 := fun e => h (UInt8.toNat_inj.1 e)
    have h1 : ((x.toNat : Int) != 0) = true := by simp; omega
    have h2 : (x != 0) = true := by simpa using h
    rw [h1, h2]

set_option maxRecDepth 20000 in
theorem reduce1_any (A : Option Addr) (W cp : Nat) (f : Nat → UInt8) (b c : Nat) (hc : c < W) (w : World) (h : Sl w 1 A W cp (cells (rowL W f))) (hb : w.cell? ⟨b, 0, none⟩ = some (.int .i64 (c : Int))) :
    Calls Try.prog 60 #[.slice A W cp, .pointer (some ⟨b, 0, none⟩)] w fun e w' => e = .returned (.bool (f c != 0)) ∧ w' = w := by
  have hcp := h.lim
  unfold maxLen at hcp
  obtain ⟨b1, o1, rfl, hcell⟩ := h.at_ hc
  have hx := hcell c _ (by rw [cells_get _ c (by rw [rowL_length]; exact hc)])
  have hg : (rowL W f)[c]'(by rw [rowL_length]; exact hc) = f c := by simp [rowL]
  rw [hg, bv] at hx
  clear hcell h hg
  obtain ⟨x, hx0⟩ : ∃ x, x = f c := ⟨_, rfl⟩
  rw [← hx0] at hx ⊢
  clear hx0
  go_enter Try.func60, Try.ntmps60
  go_wp2_with fail
  go_ret
  exact ⟨by rw [← u8_bne0]; rfl, rfl⟩

set_option maxRecDepth 20000 in
theorem indexE_any (A : Option Addr) (cp : Nat) (v : Value) (w : World) :
    Calls Try.prog 59 #[.slice A 0 cp, v] w fun e w' => e = .returned (.int .i64 (-1)) ∧ w' = w := by
  go_enter Try.func59, Try.ntmps59
  go_wp2_with fail
  go_loopw [8] (fun i wr => i = .int .i64 0 ∧ wr = w) (fun i _ => 0)
  case atStart => exact ⟨rfl, rfl⟩
  case round =>
    obtain ⟨rfl, rfl⟩ := hrel
    go_wp2_with fail
    go_ret
    exact ⟨rfl, rfl⟩

set_option maxRecDepth 20000 in
set_option maxHeartbeats 800000 in
theorem index_any (g n W L m cp : Nat) (S : Nat → Prop) (M : Mx) (b c : Nat) (hc : c < W) (hn : n ≤ 1048576) (hm : L + m = n) (w : World) (h : RowsAt w g n W S M) (hb : w.cell? ⟨b, 0, none⟩ = some (.int .i64 (c : Int))) :
    Calls Try.prog 59 #[.slice (some ⟨g, L, none⟩) m cp, .func (.func 60) #[] #[.pointer (some ⟨b, 0, none⟩)]] w
      fun e w' => w' = w ∧ ((e = .returned (.int .i64 (-1)) ∧ ∀ i, L ≤ i → i < n → M i c = 0) ∨ ∃ d : Nat, e = .returned (.int .i64 (d : Int)) ∧ L + d < n ∧ M (L + d) c ≠ 0) := by
  have H := Lib.hid h; clear h
  go_enter Try.func59, Try.ntmps59
  go_wp2_with fail
  go_loopw [8] (fun i wr => ∃ k : Nat, k ≤ m ∧ i = .int .i64 (k : Int) ∧ wr = w ∧ ∀ j, j < k → M (L + j) c = 0) (fun i _ => m - (intOf i).toNat)
  case atStart => exact ⟨0, by omega, rfl, rfl, fun j hj => absurd hj (by omega)⟩
  case round =>
    obtain ⟨k, hk, rfl, rfl, hz⟩ := hrel
    have Hz := Lib.hid hz; clear hz
    by_cases hlt : k < m
    · obtain ⟨A, ca, hcell, hs, _⟩ := H.out.cell (i := L + k) (by omega)
      have hh := reduce1_any A W ca (M (L + k)) b c hc _ hs hb
      clear hs
      by_cases hx : M (L + k) c = 0
      · rw [hx] at hh
        have Hx := Lib.hid hx; clear hx
        go_wp2_with fail
        refine hh.mono ?_; clear hh; rintro e w' ⟨rfl, rfl⟩
        go_wp2_with fail
        go_roundw
        case rel => exact ⟨k + 1, by omega, by go_num, trivial, fun j hj => by
          by_cases he : j = k
          · rw [he]; exact Hx.out
          · exact Hz.out j (by omega)⟩
        case measure => simp [intOf]; omega
      · have e1 : (M (L + k) c != 0) = true := by simpa using hx
        rw [e1] at hh
        have Hx := Lib.hid hx; clear hx e1
        go_wp2_with fail
        refine hh.mono ?_; clear hh; rintro e w' ⟨rfl, rfl⟩
        go_wp2_with fail
        go_ret
        exact ⟨rfl, .inr ⟨k, rfl, by omega, Hx.out⟩⟩
    · obtain rfl : k = m := by omega
      go_wp2_with fail
      go_ret
      exact ⟨rfl, .inl ⟨rfl, fun i h1 h2 => by
        have := Hz.out (i - L) (by omega)
        rwa [show L + (i - L) = i from by omega] at this⟩⟩
end Go.Proofs.Ytccnoflgbopjlaa

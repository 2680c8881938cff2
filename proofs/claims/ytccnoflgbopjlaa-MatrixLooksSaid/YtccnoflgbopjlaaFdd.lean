/-
  Contracts of package field's New. No condition.
-/
import Derived.Test.YtccnoflgbopjlaaFdc
import Derived.Deep.QuietTactic
import Derived.BigQuiet
namespace Go.Proofs.Ytccnoflgbopjlaa
open Go.RowKit
set_option linter.unusedVariables false

theorem zero_tabs (w : World) : (zeroValue 76).run Try.prog w = .ok (.agg (tb 0 0 (fun _ => 0) (fun _ => 0))) w := by kernel_rfl

set_option maxRecDepth 20000 in
set_option maxHeartbeats 800000 in
theorem new_any (w : World) :
    Calls Try.prog 21 #[] w fun e w' => e = .returned (.pointer (some ⟨w.heap.size + 1, 0, none⟩)) ∧ Fld w' (w.heap.size + 1) w.heap.size ∧ Below w.heap.size w w' := by
  have hz := zero_tabs w
  go_enter Try.func21, Try.ntmps21
  go_wp2_with fail
  go_ret
  refine ⟨rfl, ⟨by simp, .inl ?_, by omega⟩, ((Below.refl _ _).alloc (Nat.le_refl _) _).alloc (by simp) _⟩
  exact (Below.heap_alloc _ _ _ (by simp)).trans (heap_alloc_new w _)

set_option maxRecDepth 20000 in
set_option maxHeartbeats 800000 in
theorem product_any (T : Nat) (u v : UInt8) (w : World) (h : Tabs w T 1 0 pwF exF) :
    Calls Try.prog 58 #[.pointer (some ⟨T, 0, none⟩), .int .u8 (u.toNat : Int), .int .u8 (v.toNat : Int)] w fun e w' => e = .returned (.int .u8 ((gm u v).toNat : Int)) ∧ ∃ k, w' = w.drewN k := by
  have hu := u.toNat_lt
  have hv := v.toNat_lt
  by_cases h0 : u.toNat = 0
  · have hd : decide ((u.toNat : Int) = 0) = true := by simpa using h0
    have hg : gm u v = 0 := by rw [UInt8.toNat_inj.1 (show u.toNat = (0 : UInt8).toNat from h0), zero_gm]
    go_enter Try.func58, Try.ntmps58
    go_wp2_with fail
    go_ret
    exact ⟨by rw [hg]; rfl, 0, rfl⟩
  by_cases h1 : v.toNat = 0
  · have hd : decide ((v.toNat : Int) = 0) = true := by simpa using h1
    have hg : gm u v = 0 := by rw [UInt8.toNat_inj.1 (show v.toNat = (0 : UInt8).toNat from h1), gm_zero]
    go_enter Try.func58, Try.ntmps58
    go_wp2_with fail
    go_ret
    exact ⟨by rw [hg]; rfl, 0, rfl⟩
  have e1 : ((u.toNat : Int) == 0) = false := by simp; omega
  have e2 : ((v.toNat : Int) == 0) = false := by simp; omega
  have hg := gm_tab u v (fun e => h0 (by rw [e]; rfl)) (fun e => h1 (by rw [e]; rfl))
  have c1 := h.cellEx u.toNat hu
  have c2 := h.cellEx v.toNat hv
  have c3 := h.cellPw (((exF u.toNat).toNat + (exF v.toNat).toNat) % 255) (Nat.mod_lt _ (by omega))
  rw [← hg] at c3
  have l1 := ex_lt u.toNat hu
  have l2 := ex_lt v.toNat hv
  obtain ⟨x, hx⟩ : ∃ x, x = (exF u.toNat).toNat := ⟨_, rfl⟩
  obtain ⟨y, hy⟩ : ∃ y, y = (exF v.toNat).toNat := ⟨_, rfl⟩
  rw [← hx] at c1 c3 l1
  rw [← hy] at c2 c3 l2
  clear hx hy hg
  have H := Lib.hid h; clear h
  go_enter Try.func58, Try.ntmps58
  go_wp2_with fail
  go_quiet (fail)
  go_wp2_with fail
  go_ret
  exact ⟨rfl, _, rfl⟩

/-- The rest that Go's signs make of n, by 255. -/
def restZ (n : Int) : Int := ((n.tmod 255 + 255).tmod 255)
theorem restZ_eq (n : Int) : restZ n = n % 255 := by
  unfold restZ
  rcases Int.le_total 0 n with h | h
  · rw [Int.tmod_eq_emod_of_nonneg h, Int.tmod_eq_emod_of_nonneg (by omega)]
    omega
  · have h1 : n.tmod 255 = -((-n).tmod 255) := by rw [Int.neg_tmod, Int.neg_neg]
    rw [h1, Int.tmod_eq_emod_of_nonneg (show 0 ≤ -n by omega), Int.tmod_eq_emod_of_nonneg (by omega)]
    omega
theorem restW (n : Int) : (wrap64 (n.tmod 255 + 255)).tmod 255 = ((n % 255).toNat : Int) := by
  have h := restZ_eq n
  unfold restZ at h
  have h1 : -255 < n.tmod 255 := Int.lt_tmod_of_pos n (by omega)
  have h2 : n.tmod 255 < 255 := Int.tmod_lt_of_pos n (by omega)
  have h3 : wrap64 (n.tmod 255 + 255) = n.tmod 255 + 255 := by unfold wrap64; omega
  rw [h3, h]
  omega
theorem gz_tab (u : UInt8) (n : Int) (hu : u ≠ 0) : gz u n = pwF ((exF u.toNat).toNat * (n % 255).toNat % 255) := gp_tab u _ hu

set_option maxRecDepth 20000 in
set_option maxHeartbeats 800000 in
theorem raised_any (T : Nat) (u : UInt8) (n : Int) (hn1 : -9223372036854775808 ≤ n) (hn2 : n < 9223372036854775808) (w : World) (h : Tabs w T 1 0 pwF exF) (h0 : u ≠ 0) :
    Calls Try.prog 64 #[.pointer (some ⟨T, 0, none⟩), .int .u8 (u.toNat : Int), .int .i64 n] w fun e w' => e = .returned (.int .u8 ((gz u n).toNat : Int)) ∧ ∃ k, w' = w.drewN k := by
  have hu := u.toNat_lt
  have hg := gz_tab u n h0
  have c1 := h.cellEx u.toNat hu
  have c3 := h.cellPw ((exF u.toNat).toNat * (n % 255).toNat % 255) (Nat.mod_lt _ (by omega))
  rw [← hg] at c3
  have l1 := ex_lt u.toNat hu
  obtain ⟨x, hx⟩ : ∃ x, x = (exF u.toNat).toNat := ⟨_, rfl⟩
  rw [← hx] at c1 c3 l1
  clear hx hg
  obtain ⟨r, hr⟩ : ∃ r, r = (n % 255).toNat := ⟨_, rfl⟩
  have l3 : r < 255 := by omega
  obtain ⟨m, hm⟩ : ∃ m, m = x * r := ⟨_, rfl⟩
  have l4 : m ≤ 254 * 254 := by rw [hm]; exact Nat.mul_le_mul (by omega) (by omega)
  have hmi : (x : Int) * (r : Int) = (m : Int) := by rw [hm]; omega
  rw [← hr, ← hm] at c3
  have Hr := Lib.hid hr; clear hr hm
  have H := Lib.hid h; clear h
  go_enter Try.func64, Try.ntmps64
  go_wp2_with fail
  rw [restW n, ← Hr.out]
  go_quiet (fail)
  go_wp2_with fail
  go_ret
  exact ⟨rfl, _, rfl⟩
end Go.Proofs.Ytccnoflgbopjlaa

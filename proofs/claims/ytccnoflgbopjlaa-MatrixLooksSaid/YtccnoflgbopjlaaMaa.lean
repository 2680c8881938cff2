/-
  Contracts of the document's answers of layer 4: Right, Same, At, Row, first. No condition.
-/
import Derived.Test.YtccnoflgbopjlaaByt
import Derived.Test.YtccnoflgbopjlaaLina
import Derived.Test.YtccnoflgbopjlaaFr
import Derived.Test.YtccnoflgbopjlaaMine
namespace Go.Proofs.Ytccnoflgbopjlaa
open Go.RowKit
set_option linter.unusedVariables false

/-- Is a matrix right? -/
def rightB (r c : Int) (n : Nat) : Bool := decide (1 ≤ r ∧ r ≤ 255 ∧ 1 ≤ c ∧ c ≤ 255 ∧ (n : Int) = r * c)
theorem prod_le {r c : Int} (h1 : 1 ≤ r) (h2 : r ≤ 255) (h3 : 1 ≤ c) (h4 : c ≤ 255) : 0 ≤ r * c ∧ r * c ≤ 65025 := by
  refine ⟨Int.mul_nonneg (by omega) (by omega), ?_⟩
  have a : r * c ≤ 255 * c := Int.mul_le_mul_of_nonneg_right h2 (by omega)
  omega
theorem rightB_in {r c : Int} {n : Nat} (h1 : 1 ≤ r) (h2 : r ≤ 255) (h3 : 1 ≤ c) (h4 : c ≤ 255) : ((n : Int) == wrap64 (r * c)) = rightB r c n := by
  have h := prod_le h1 h2 h3 h4
  have hw : wrap64 (r * c) = r * c := by unfold wrap64; omega
  rw [hw, rightB]
  by_cases hn : (n : Int) = r * c <;> simp [h1, h2, h3, h4, hn]
theorem rightB_out {r c : Int} {n : Nat} (h : r < 1 ∨ 255 < r ∨ c < 1 ∨ 255 < c) : false = rightB r c n := by
  rw [rightB, eq_comm, decide_eq_false_iff_not]
  omega
theorem rightB_nat {r c : Int} {n : Nat} (h : rightB r c n = true) : ∃ R C : Nat, r = (R : Int) ∧ c = (C : Int) ∧ 1 ≤ R ∧ R ≤ 255 ∧ 1 ≤ C ∧ C ≤ 255 ∧ n = R * C := by
  have h := of_decide_eq_true h
  obtain ⟨h1, h2, h3, h4, h5⟩ := h
  obtain ⟨R, rfl⟩ := Int.eq_ofNat_of_zero_le (show 0 ≤ r by omega)
  obtain ⟨C, rfl⟩ := Int.eq_ofNat_of_zero_le (show 0 ≤ c by omega)
  refine ⟨R, C, rfl, rfl, by omega, by omega, by omega, by omega, ?_⟩
  have : ((R * C : Nat) : Int) = (R : Int) * (C : Int) := by simp
  omega
theorem idx_lt {i j R C : Nat} (hi : i < R) (hj : j < C) : i * C + j < R * C := by
  have h : (i + 1) * C ≤ R * C := Nat.mul_le_mul_right C hi
  rw [Nat.add_mul, Nat.one_mul] at h
  omega

set_option maxRecDepth 20000 in
set_option maxHeartbeats 800000 in
theorem rright_any (r c : Int) (A : Option Addr) (n cp : Nat) (hn : n ≤ maxLen) (w : World) :
    Calls Try.prog 15 #[.agg #[.int .i64 r, .int .i64 c, .slice A n cp]] w fun e w' => e = .returned (.bool (rightB r c n)) ∧ Below w.heap.size w w' := by
  unfold maxLen at hn
  go_enter Try.func15, Try.ntmps15
  go_wp2_with fail
  all_goals
    go_ret
    refine ⟨?_, (Below.refl _ _).alloc (Nat.le_refl _) _⟩
    first
      | (rw [← rightB_in (by assumption) (by assumption) (by assumption) (by assumption)]; rfl)
      | (rw [← rightB_out (by omega)]; rfl)

theorem bstr_inj {l k : List UInt8} (h : bstr l = bstr k) : l = k := by
  have h1 := congrArg (fun s : ByteArray => s.data.toList) h
  have h2 : (bstr l).data.toList = (bstr k).data.toList := h1
  rwa [bstr_data, bstr_data] at h2
theorem str_of {w : World} {A : Option Addr} {n c : Nat} {l : List UInt8} (h : Sl w 1 A n c (cells l)) : (convert 22 9 (.slice A n c)).run Try.prog w = .ok (.string (bstr l)) w :=
  run_string_of (P := Try.prog) 22 5 9 Try.underlying22 Try.underlying5 Try.underlying9 h

set_option maxRecDepth 20000 in
set_option maxHeartbeats 800000 in
theorem rsame_any (r c : Int) (A : Option Addr) (n cp : Nat) (l : List UInt8) (r' c' : Int) (A' : Option Addr) (n' cp' : Nat) (l' : List UInt8) (w : World) (h : Sl w 1 A n cp (cells l)) (h' : Sl w 1 A' n' cp' (cells l')) :
    Calls Try.prog 13 #[.agg #[.int .i64 r, .int .i64 c, .slice A n cp], .agg #[.int .i64 r', .int .i64 c', .slice A' n' cp']] w fun e w' => e = .returned (.bool (decide (r = r' ∧ c = c' ∧ l = l'))) ∧ Below w.heap.size w w' := by
  have k1 := str_of ((h.alloc (.cells #[.int .i64 r, .int .i64 c, .slice A n cp] 24)).alloc (.cells #[.int .i64 r', .int .i64 c', .slice A' n' cp'] 24))
  have k2 := str_of ((h'.alloc (.cells #[.int .i64 r, .int .i64 c, .slice A n cp] 24)).alloc (.cells #[.int .i64 r', .int .i64 c', .slice A' n' cp'] 24))
  by_cases hr : r = r'
  · subst hr
    by_cases hc : c = c'
    · subst hc
      by_cases hl : l = l'
      · subst hl
        go_enter Try.func13, Try.ntmps13
        go_wp2_with fail
        go_ret
        exact ⟨by simp, ((Below.refl _ _).alloc (Nat.le_refl _) _).alloc (by simp) _⟩
      · go_enter Try.func13, Try.ntmps13
        go_wp2_with fail
        go_ret
        exact ⟨by simp [hl, bstr_toList], ((Below.refl _ _).alloc (Nat.le_refl _) _).alloc (by simp) _⟩
    · go_enter Try.func13, Try.ntmps13
      go_wp2_with fail
      go_ret
      exact ⟨by simp [hc], ((Below.refl _ _).alloc (Nat.le_refl _) _).alloc (by simp) _⟩
  · go_enter Try.func13, Try.ntmps13
    go_wp2_with fail
    go_ret
    exact ⟨by simp [hr], ((Below.refl _ _).alloc (Nat.le_refl _) _).alloc (by simp) _⟩

/-- What stands at a place; 0 where there is none. -/
def atR (r c : Int) (n : Nat) (l : List UInt8) (i j : Int) : UInt8 := if rightB r c n = true ∧ 0 ≤ i ∧ i < r ∧ 0 ≤ j ∧ j < c then l.getD (i * c + j).toNat 0 else 0

set_option maxRecDepth 20000 in
set_option maxHeartbeats 800000 in
theorem rat_any (r c : Int) (A : Option Addr) (n cp : Nat) (l : List UInt8) (i j : Int) (w : World) (h : Sl w 1 A n cp (cells l)) :
    Calls Try.prog 17 #[.agg #[.int .i64 r, .int .i64 c, .slice A n cp], .int .i64 i, .int .i64 j] w fun e w' => e = .returned (.int .u8 ((atR r c n l i j).toNat : Int)) ∧ Below w.heap.size w w' := by
  have hn := h.lim
  have hl := h.len
  rw [cells_length, Nat.mul_one] at hl
  have Hs := Lib.hid h; clear h
  have Hl := Lib.hid hl; clear hl
  by_cases hr : rightB r c n = true
  · by_cases hin : 0 ≤ i ∧ i < r ∧ 0 ≤ j ∧ j < c
    · obtain ⟨R, C, rfl, rfl, h1, h2, h3, h4, rfl⟩ := rightB_nat hr
      obtain ⟨I, rfl⟩ := Int.eq_ofNat_of_zero_le hin.1
      obtain ⟨J, rfl⟩ := Int.eq_ofNat_of_zero_le hin.2.2.1
      have hI : I < R := by omega
      have hJ : J < C := by omega
      have hk := idx_lt hI hJ
      have hRC : R * C ≤ 255 * 255 := Nat.mul_le_mul h2 h4
      have hat : atR (R : Int) (C : Int) (R * C) l (I : Int) (J : Int) = l.getD (I * C + J) 0 := by
        rw [atR, if_pos ⟨hr, hin⟩]
        congr 1
      have hkl : I * C + J < l.length := by rw [Hl.out]; exact hk
      obtain ⟨b, o, hA, hc⟩ := Hs.out.at_ (k := I * C + J) hk
      have hcell := hc _ _ (cells_get l _ hkl)
      have hgd : l.getD (I * C + J) 0 = l[I * C + J] := by simp [hkl]
      rw [hat, hgd]
      rw [bv] at hcell
      obtain ⟨x, hx⟩ : ∃ x, x = l[I * C + J] := ⟨_, rfl⟩
      rw [← hx] at hcell ⊢
      clear hx hgd hat hc
      obtain ⟨q, hq⟩ : ∃ q, q = I * C := ⟨_, rfl⟩
      obtain ⟨N, hN⟩ : ∃ N, N = R * C := ⟨_, rfl⟩
      have hqi : (I : Int) * (C : Int) = (q : Int) := by rw [hq]; simp
      rw [← hq] at hk hkl hcell
      rw [← hN] at hk hRC hr hn Hl Hs ⊢
      have Hr := Lib.hid hr; clear hr hq hN
      subst hA
      go_enter Try.func17, Try.ntmps17
      go_wp2_with fail
      have hh := rright_any (R : Int) (C : Int) (some ⟨b, o, none⟩) N cp hn (w.alloc (.cells #[.int .i64 (R : Int), .int .i64 (C : Int), .slice (some ⟨b, o, none⟩) N cp] 24))
      refine hh.mono ?_; clear hh; rintro e w2 ⟨rfl, hb2⟩
      rw [Hr.out]
      have c0 : w2.cell? ⟨w.heap.size, 0, none⟩ = some (.int .i64 (R : Int)) := (hb2.cell (by simp)).trans (by simp)
      have c1 : w2.cell? ⟨w.heap.size, 1, none⟩ = some (.int .i64 (C : Int)) := (hb2.cell (by simp)).trans (by simp)
      have c2 : w2.cell? ⟨w.heap.size, 2, none⟩ = some (.slice (some ⟨b, o, none⟩) N cp) := (hb2.cell (by simp)).trans (by simp)
      have hb3 : Below w.heap.size w w2 := ((Below.refl _ _).alloc (Nat.le_refl _) _).trans (hb2.mono (by simp))
      have hc3 := (hb3.cell (p := ⟨b, o + (q + J), none⟩) (World.block_lt_of_cell? w _ hcell)).trans hcell
      clear hb2 hcell
      go_wp2_with fail
      go_ret
      exact ⟨rfl, hb3⟩
    · have hat : atR r c n l i j = 0 := if_neg fun h => hin h.2
      rw [hat]
      have Hr := Lib.hid hr; clear hr
      go_enter Try.func17, Try.ntmps17
      go_wp2_with fail
      have hh := rright_any r c A n cp hn (w.alloc (.cells #[.int .i64 r, .int .i64 c, .slice A n cp] 24))
      refine hh.mono ?_; clear hh; rintro e w2 ⟨rfl, hb2⟩
      rw [Hr.out]
      have c0 : w2.cell? ⟨w.heap.size, 0, none⟩ = some (.int .i64 r) := (hb2.cell (by simp)).trans (by simp)
      have c1 : w2.cell? ⟨w.heap.size, 1, none⟩ = some (.int .i64 c) := (hb2.cell (by simp)).trans (by simp)
      have hb3 : Below w.heap.size w w2 := ((Below.refl _ _).alloc (Nat.le_refl _) _).trans (hb2.mono (by simp))
      clear hb2
      go_wp2_with fail
      all_goals first
        | (exfalso; omega; done)
        | (go_ret; exact ⟨rfl, hb3⟩)
  · have hat : atR r c n l i j = 0 := if_neg fun h => hr h.1
    rw [hat]
    have hr0 : rightB r c n = false := by simpa using hr
    have Hr := Lib.hid hr0; clear hr hr0
    go_enter Try.func17, Try.ntmps17
    go_wp2_with fail
    have hh := rright_any r c A n cp hn (w.alloc (.cells #[.int .i64 r, .int .i64 c, .slice A n cp] 24))
    refine hh.mono ?_; clear hh; rintro e w2 ⟨rfl, hb2⟩
    rw [Hr.out]
    have hb3 : Below w.heap.size w w2 := ((Below.refl _ _).alloc (Nat.le_refl _) _).trans (hb2.mono (by simp))
    clear hb2
    go_wp2_with fail
    go_ret
    exact ⟨rfl, hb3⟩
end Go.Proofs.Ytccnoflgbopjlaa

/-
  What Data and All of package decode answer, in the document's words. Condition: the coder is one that New made.
-/
import Derived.Test.YtgoomiimlfdcmaaGreatDma
namespace Go.Proofs.YtgoomiimlfdcmaaGreat
open Go.RowKit Go.Proofs
set_option linter.unusedVariables false

theorem right_wid {k m n : Nat} {rs : List (List UInt8)} (h : rightX k m rs = 0) (hl : rs.length = n) : ∀ a, a < k → (rs.getD (((thereL rs n).take k).getD a 0) []).length = (rs.getD ((thereL rs n).getD 0 0) []).length := by
  obtain ⟨_, hlv, hkq⟩ := rightX_ok h
  intro a ha
  rw [take_getD ha]
  have := (of_decide_eq_true hlv) a (by omega)
  rwa [hl] at this
theorem right_few {k m n : Nat} {rs : List (List UInt8)} (h : rightX k m rs = 0) (hl : rs.length = n) : n = k + m ∧ k ≤ (thereL rs n).length := by
  obtain ⟨h1, _, hkq⟩ := rightX_ok h
  rw [hl] at h1 hkq
  exact ⟨h1, hkq⟩
theorem all_same {k m n W : Nat} {X : Mx} {rs : List (List UInt8)} (h1 : 1 ≤ k) (hk : k ≤ (thereL rs n).length) (hl : rs.length = n) : fillL (rs.take n) (makeL k X rs ((thereL rs n).take k) W) n = fillL rs (shard k (dataL k W (solD k X rs ((thereL rs n).take k)))) n := by
  rw [List.take_of_length_le (by omega)]
  exact fillL_congr _ _ _ _ fun i _ => makeL_shard _ _ _ _ _ _ h1 (by rw [List.length_take]; omega)

set_option maxRecDepth 100000 in
set_option maxHeartbeats 400000 in
theorem ddata_ok (C k m F T : Nat) (A : Option Addr) (n c : Nat) (rs : List (List UInt8)) (w : World) (h : Cod w C k m F T) (hg : Gr w A n c rs) (hW : ∀ r ∈ rs, r.length ≤ 1048576) (hn : n ≤ 1048576) :
    Calls Tryz.prog 13 #[.pointer (some ⟨C, 0, none⟩), .slice A n c] w fun e w' =>
      ((rightX k m rs ≠ 0 ∧ e = .returned (.tuple #[.slice none 0 0, .int .i64 (rightX k m rs)])) ∨
        (rightX k m rs = 0 ∧ ∃ (A' : Option Addr) (c' : Nat) (X : Mx), Alike k k (mm k X (facM k ((thereL rs n).take k))) one ∧ e = .returned (.tuple #[.slice A' k c', .int .i64 0]) ∧ Gr w' A' k c' (dataL k (rs.getD ((thereL rs n).getD 0 0) []).length (solD k X rs ((thereL rs n).take k))))) ∧ Below w.heap.size w w' := by
  have h1 := h.k1
  have hl := hg.len
  refine (ddata_any C k m F T A n c rs w h hg hW hn).mono ?_
  rintro e w' ⟨hr, hb⟩
  refine ⟨?_, hb⟩
  rcases hr with hr | ⟨hr, A', c', X, hX, he, hG⟩
  · exact .inl hr
  · obtain ⟨hnk, hkq⟩ := right_few hr hl
    rw [data_same h1 hX hkq hl (by omega) (right_wid hr hl)] at hG
    exact .inr ⟨hr, A', c', X, hX, he, hG⟩

set_option maxRecDepth 100000 in
set_option maxHeartbeats 400000 in
theorem dall_ok (C k m F T : Nat) (A : Option Addr) (n c : Nat) (rs : List (List UInt8)) (w : World) (h : Cod w C k m F T) (hg : Gr w A n c rs) (hW : ∀ r ∈ rs, r.length ≤ 1048576) (hn : n ≤ 1048576) :
    Calls Tryz.prog 15 #[.pointer (some ⟨C, 0, none⟩), .slice A n c] w fun e w' =>
      ((rightX k m rs ≠ 0 ∧ e = .returned (.tuple #[.slice none 0 0, .int .i64 (rightX k m rs)])) ∨
        (rightX k m rs = 0 ∧ ∃ (A' : Option Addr) (c' : Nat) (X : Mx), Alike k k (mm k X (facM k ((thereL rs n).take k))) one ∧ e = .returned (.tuple #[.slice A' (k + m) c', .int .i64 0]) ∧ Gr w' A' (k + m) c' (fillL rs (shard k (dataL k (rs.getD ((thereL rs n).getD 0 0) []).length (solD k X rs ((thereL rs n).take k)))) (k + m)))) ∧ Below w.heap.size w w' := by
  have h1 := h.k1
  have hl := hg.len
  refine (dall_any C k m F T A n c rs w h hg hW hn).mono ?_
  rintro e w' ⟨hr, hb⟩
  refine ⟨?_, hb⟩
  rcases hr with hr | ⟨hr, A', c', X, hX, he, hG⟩
  · exact .inl hr
  · obtain ⟨hnk, hkq⟩ := right_few hr hl
    rw [← hnk, all_same (m := m) h1 hkq hl, hnk] at hG
    exact .inr ⟨hr, A', c', X, hX, he, by rw [← hnk] at hG ⊢; exact hG⟩

end Go.Proofs.YtgoomiimlfdcmaaGreat

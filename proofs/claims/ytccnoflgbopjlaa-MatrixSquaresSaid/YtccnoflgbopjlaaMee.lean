/-
  Plain mathematics: rows are kept, if something is left of them when the kept ones are taken away; how many are kept is the rank. No program, no condition.
-/
import Derived.Test.YtccnoflgbopjlaaRed
namespace Go.Proofs.Ytccnoflgbopjlaa

/-- Of M's first i rows k are kept, K; each leads at a place of its own. -/
structure RkIn (W i k : Nat) (M K : Mx) (ld : Nat → Nat) : Prop where
  lead : ∀ a, a < k → ld a < W ∧ K a (ld a) ≠ 0 ∧ ∀ j, j < ld a → K a j = 0
  zero : ∀ a b, a < k → b < a → K a (ld b) = 0
  to : ∃ C : Mx, Alike i W M (mm k C K)
  back : ∃ D : Mx, Alike k W K (mm i D M)
theorem RkIn.start (W : Nat) (M K : Mx) : RkIn W 0 0 M K id := ⟨fun a h => absurd h (by omega), fun a b h => absurd h (by omega), ⟨one, fun i h => absurd h (by omega)⟩, ⟨one, fun i h => absurd h (by omega)⟩⟩
theorem RkIn.rk {W i k : Nat} {M K : Mx} {ld : Nat → Nat} (h : RkIn W i k M K ld) : Rk i W M k := by
  obtain ⟨C, hC⟩ := h.to
  obtain ⟨D, hD⟩ := h.back
  refine ⟨⟨C, K, hC⟩, fun k' hk hf => ?_⟩
  have hf2 : Fac k W k' K := (hf.left (r := k) (D := D)).congr fun a ha j hj => (hD a ha j hj).symm
  exact echelon_least (fun a ha => (h.lead a ha).1) (fun a ha => (h.lead a ha).2.1) h.zero k' hk hf2

/-- What is left of row i, when t kept ones are taken away. -/
structure RowIn (W i t : Nat) (M K : Mx) (ld : Nat → Nat) (row : Nat → UInt8) : Prop where
  comb : ∃ e : Nat → UInt8, ∀ j, j < W → row j = M i j ^^^ xs t (fun a => gm (e a) (K a j))
  zero : ∀ b, b < t → row (ld b) = 0
theorem RowIn.start (W i : Nat) (M K : Mx) (ld : Nat → Nat) : RowIn W i 0 M K ld (M i) := ⟨⟨fun _ => 0, fun j _ => (ux0 _).symm⟩, fun b h => absurd h (by omega)⟩
theorem RowIn.add {W i t : Nat} {M K : Mx} {ld : Nat → Nat} {row : Nat → UInt8} (h : RowIn W i t M K ld row) (c : UInt8) (hz : ∀ b, b < t + 1 → row (ld b) ^^^ gm c (K t (ld b)) = 0) :
    RowIn W i (t + 1) M K ld (fun j => row j ^^^ gm c (K t j)) := by
  obtain ⟨e, he⟩ := h.comb
  refine ⟨⟨fun a => if a = t then c else e a, fun j hj => ?_⟩, hz⟩
  show row j ^^^ gm c (K t j) = _
  rw [he j hj, xs]
  dsimp only
  rw [if_pos rfl, UInt8.xor_assoc]
  congr 2
  exact xs_congr t fun a ha => by (try dsimp only); rw [if_neg (by omega)]
theorem RowIn.skip {W i t : Nat} {M K : Mx} {ld : Nat → Nat} {row : Nat → UInt8} (h : RowIn W i t M K ld row) (hz : row (ld t) = 0) : RowIn W i (t + 1) M K ld row := by
  have := h.add 0 (fun b hb => by
    rw [zero_gm, ux0]
    by_cases he : b = t
    · rw [he]; exact hz
    · exact h.zero b (by omega))
  have e : (fun j => row j ^^^ gm 0 (K t j)) = row := by funext j; rw [zero_gm, ux0]
  rwa [e] at this
theorem RowIn.next {W i t k : Nat} {M K : Mx} {ld : Nat → Nat} {row : Nat → UInt8} (h : RowIn W i t M K ld row) (hk : RkIn W i k M K ld) (ht : t < k) : RowIn W i (t + 1) M K ld (fun j => row j ^^^ gm (gd (row (ld t)) (K t (ld t))) (K t j)) := by
  refine h.add _ fun b hb => ?_
  by_cases he : b = t
  · rw [he, gd_gm (hk.lead t ht).2.1, uxx]
  · rw [h.zero b (by omega), hk.zero t b ht (by omega), gm_zero, ux0]
theorem RkIn.none {W i k : Nat} {M K : Mx} {ld : Nat → Nat} {row : Nat → UInt8} (h : RkIn W i k M K ld) (hr : RowIn W i k M K ld row) (hz : ∀ j, j < W → row j = 0) : RkIn W (i + 1) k M K ld := by
  obtain ⟨C, hC⟩ := h.to
  obtain ⟨D, hD⟩ := h.back
  obtain ⟨e, he⟩ := hr.comb
  refine ⟨h.lead, h.zero, ⟨fun i' a => if i' = i then e a else C i' a, fun i' hi' j hj => ?_⟩, ⟨fun a i' => if i' = i then 0 else D a i', fun a ha j hj => ?_⟩⟩
  · unfold mm
    by_cases hii : i' = i
    · subst hii
      have h1 := he j hj
      rw [hz j hj] at h1
      rw [ux_eq h1.symm]
      exact xs_congr k fun a _ => by (try dsimp only); rw [if_pos rfl]
    · rw [hC i' (by omega) j hj]
      exact xs_congr k fun a _ => by (try dsimp only); rw [if_neg hii]
  · unfold mm
    rw [xs]
    dsimp only
    rw [if_pos rfl, zero_gm, ux0, hD a ha j hj]
    exact xs_congr i fun i' hi' => by (try dsimp only); rw [if_neg (by omega)]
theorem RkIn.more {W i k p : Nat} {M K : Mx} {ld : Nat → Nat} {row : Nat → UInt8} (h : RkIn W i k M K ld) (hr : RowIn W i k M K ld row) (hp : p < W) (h1 : row p ≠ 0) (h0 : ∀ j, j < p → row j = 0) :
    RkIn W (i + 1) (k + 1) M (upd K k row) (fun a => if a = k then p else ld a) := by
  obtain ⟨C, hC⟩ := h.to
  obtain ⟨D, hD⟩ := h.back
  obtain ⟨e, he⟩ := hr.comb
  refine ⟨fun a ha => ?_, fun a b ha hb => ?_, ⟨fun i' a => if a = k then (if i' = i then 1 else 0) else if i' = i then e a else C i' a, fun i' hi' j hj => ?_⟩,
    ⟨fun a i' => if i' = i then (if a = k then 1 else 0) else if a = k then xs k (fun a => gm (e a) (D a i')) else D a i', fun a ha j hj => ?_⟩⟩
  · by_cases hak : a = k
    · subst hak
      simp only [if_pos, upd_at]
      exact ⟨hp, h1, h0⟩
    · simp only [if_neg hak, upd_other K row hak]
      exact h.lead a (by omega)
  · have hbk : b ≠ k := by omega
    simp only [if_neg hbk]
    by_cases hak : a = k
    · subst hak
      rw [upd_at]
      exact hr.zero b (by omega)
    · rw [upd_other K row hak]
      exact h.zero a b (by omega) hb
  · unfold mm
    rw [xs]
    dsimp only
    rw [if_pos rfl, upd_at]
    by_cases hii : i' = i
    · subst hii
      rw [if_pos rfl, one_gm]
      have h2 : xs k (fun a => gm (if a = k then 1 else if i' = i' then e a else C i' a) (upd K k row a j)) = xs k (fun a => gm (e a) (K a j)) :=
        xs_congr k fun a ha => by (try dsimp only); rw [if_neg (by omega), if_pos rfl, upd_other K row (by omega)]
      rw [h2, he j hj, ← UInt8.xor_assoc, UInt8.xor_comm _ (M i' j), ux_cancel]
    · rw [if_neg hii, zero_gm, ux0, hC i' (by omega) j hj]
      exact xs_congr k fun a ha => by (try dsimp only); rw [if_neg (by omega), if_neg hii, upd_other K row (by omega)]
  · unfold mm
    rw [xs]
    dsimp only
    rw [if_pos rfl]
    by_cases hak : a = k
    · subst hak
      rw [if_pos rfl, one_gm, upd_at, he j hj, UInt8.xor_comm]
      congr 1
      have h2 : xs i (fun i' => gm (if i' = i then 1 else if a = a then xs a (fun b => gm (e b) (D b i')) else D a i') (M i' j)) = xs i (fun i' => xs a (fun b => gm (gm (e b) (D b i')) (M i' j))) :=
        xs_congr i fun i' hi' => by (try dsimp only); rw [if_neg (by omega), if_pos rfl, xs_gm]
      rw [h2, xs_swap]
      refine xs_congr a fun b hb => ?_
      rw [hD b hb j hj, mm, gm_xs]
      exact xs_congr i fun i' _ => (gm_assoc _ _ _).symm
    · rw [if_neg hak, zero_gm, ux0, upd_other K row hak, hD a (by omega) j hj]
      exact xs_congr i fun i' hi' => by (try dsimp only); rw [if_neg (by omega), if_neg hak]
end Go.Proofs.Ytccnoflgbopjlaa

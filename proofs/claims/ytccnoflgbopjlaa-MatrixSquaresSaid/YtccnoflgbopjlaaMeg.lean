/-
  Contract of the document's Rank. No condition.
-/
import Derived.Test.YtccnoflgbopjlaaMef
namespace Go.Proofs.Ytccnoflgbopjlaa
open Go.RowKit Go.Proofs
set_option linter.unusedVariables false

theorem row_first (C : Nat) (row : Nat → UInt8) : (∀ j, j < C → row j = 0) ∨ ∃ p, p < C ∧ row p ≠ 0 ∧ ∀ j, j < p → row j = 0 := by
  induction C with
  | zero => exact .inl fun j h => absurd h (by omega)
  | succ C ih =>
    rcases ih with h | ⟨p, hp, h1, h0⟩
    · by_cases hc : row C = 0
      · exact .inl fun j hj => by
          by_cases he : j = C
          · rw [he]; exact hc
          · exact h j (by omega)
      · exact .inr ⟨C, by omega, hc, h⟩
    · exact .inr ⟨p, by omega, h1, h0⟩
theorem first_hit {C p : Nat} {row : Nat → UInt8} (hp : p < C) (h1 : row p ≠ 0) (h0 : ∀ j, j < p → row j = 0) : firstI (rowL C row) = (p : Int) :=
  firstI_hit (k := p) (by rw [rowL_length]; exact hp) (fun j hj => by simp [rowL, h0 j hj]) (by simpa [rowL] using h1)
theorem first_none {C : Nat} {row : Nat → UInt8} (h : ∀ j, j < C → row j = 0) : firstI (rowL C row) = -1 :=
  firstI_none (fun j hj => by
    rw [rowL_length] at hj
    simp [rowL, h j hj])

/-- A slice of k rows of K, W wide, that grows by append; no row lies in the block that it owns. -/
structure Kp (w : World) (B : Nat) (A : Option Addr) (k c W : Nat) (K : Mx) : Prop where
  ks : ∃ ks : List Value, w.ownsRow B 22 1 (.slice A k c) k ks ∧ ∀ a, a < k → ∃ A' c', ks[a]? = some (.slice A' W c') ∧ Sl w 1 A' W c' (cells (rowL W (K a))) ∧ ∀ b o g, 0 < W → A' = some ⟨b, o, none⟩ → A = some ⟨g, 0, none⟩ → b ≠ g
theorem Kp.nil (w : World) (B W : Nat) (K : Mx) : Kp w B none 0 0 W K := ⟨[], World.ownsRow_nil _ _ _ _, fun a h => absurd h (by omega)⟩
theorem Kp.later {w w' : World} {B : Nat} {A : Option Addr} {k c W : Nat} {K : Mx} (h : Kp w B A k c W K) (hb : Below w.heap.size w w') : Kp w' B A k c W K := by
  obtain ⟨ks, ho, hr⟩ := h.ks
  refine ⟨ks, ownsRow_below ho hb, fun a ha => ?_⟩
  obtain ⟨A', c', h1, h2, h3⟩ := hr a ha
  exact ⟨A', c', h1, h2.below hb (Nat.le_refl _), h3⟩
theorem Kp.cell {w : World} {B : Nat} {A : Option Addr} {k c W : Nat} {K : Mx} (h : Kp w B A k c W K) {a : Nat} (ha : a < k) : ∃ g A' c', A = some ⟨g, 0, none⟩ ∧ w.cell? ⟨g, a, none⟩ = some (.slice A' W c') ∧ Sl w 1 A' W c' (cells (rowL W (K a))) := by
  obtain ⟨ks, ho, hr⟩ := h.ks
  obtain ⟨A', c', h1, h2, _⟩ := hr a ha
  obtain ⟨g, cap, hv, _, _⟩ := ho.form (by omega)
  injection hv with hA _ hc
  subst hA; subst hc
  have := ho.cells (g := g) rfl a _ h1
  rw [Addr.add_lit] at this
  exact ⟨g, A', c', rfl, by simpa using this, h2⟩
theorem Kp.cap {w : World} {B : Nat} {A : Option Addr} {k c W : Nat} {K : Mx} (h : Kp w B A k c W K) : k ≤ c ∧ c ≤ maxLen := by
  obtain ⟨ks, ho, _⟩ := h.ks
  rcases ho.2 with ⟨hv, h0⟩ | ⟨g, cap, cur, hv, _, _, h1, h2, _⟩
  · injection hv with _ h1 h2
    omega
  · injection hv with _ _ hc
    omega
theorem Kp.lt {w : World} {B : Nat} {A : Option Addr} {k c W : Nat} {K : Mx} (h : Kp w B A k c W K) {g : Nat} (hA : A = some ⟨g, 0, none⟩) : g < w.heap.size := by
  obtain ⟨ks, ho, _⟩ := h.ks
  rcases ho.2 with ⟨hv, _⟩ | ⟨g', cap, cur, hv, _, hg, _⟩
  · injection hv with h1 _ _
    rw [h1] at hA; cases hA
  · injection hv with h1 _ _
    rw [h1] at hA
    injection hA with hA
    injection hA with hA _
    exact hA ▸ block_lt hg
theorem Sl.rowcell {w : World} {A : Option Addr} {c C : Nat} {row : Nat → UInt8} (h : Sl w 1 A C c (cells (rowL C row))) {q : Nat} (hq : q < C) : ∃ b o, A = some ⟨b, o, none⟩ ∧ w.cell? ⟨b, o + q, none⟩ = some (.int .u8 ((row q).toNat : Int)) := by
  obtain ⟨b, o, e, hc⟩ := h.at_ hq
  refine ⟨b, o, e, hc q _ ?_⟩
  rw [cells_get (rowL C row) q (by rw [rowL_length]; exact hq), bv]
  simp [rowL]
theorem ownsRow_block {w : World} {B n c : Nat} {e : TypeId} {A : Option Addr} {xs : List Value} (h : w.ownsRow B e 1 (.slice A n c) n xs) : ∀ k, (Value.slice A n c).ownBlock = some k → B ≤ k := fun k hk => by
  rcases h.2 with ⟨hv, _⟩ | ⟨g', cap, cur, hv, hB, _⟩
  · rw [hv] at hk; cases hk
  · rw [hv] at hk
    have hk' : some g' = some k := hk
    injection hk' with hk'
    omega
/-- One more row. -/
theorem Kp.push {w w' : World} {B : Nat} {A : Option Addr} {k c W : Nat} {K : Mx} {ks : List Value} (h1 : w.ownsRow B 22 1 (.slice A k c) k ks) (hr : ∀ a, a < k → ∃ A' c', ks[a]? = some (.slice A' W c') ∧ Sl w 1 A' W c' (cells (rowL W (K a))) ∧ ∀ b o g, 0 < W → A' = some ⟨b, o, none⟩ → A = some ⟨g, 0, none⟩ → b ≠ g) {row : Nat → UInt8} {A2 : Option Addr} {c2 : Nat} (hs : Sl w 1 A2 W c2 (cells (rowL W row))) (hne : ∀ b o g, 0 < W → A2 = some ⟨b, o, none⟩ → A = some ⟨g, 0, none⟩ → b ≠ g)
    {g cap : Nat} (ho : w'.ownsRow B 22 1 (.slice (some ⟨g, 0, none⟩) (k + 1) cap) (k + 1) (ks ++ [.slice A2 W c2]))
    (hg : w.grownBy w' (Value.slice A k c).ownBlock) (hat : (Value.slice A k c).ownBlock = some g ∨ w.heap.size ≤ g) : Kp w' B (some ⟨g, 0, none⟩) (k + 1) cap W (upd K k row) := by
  have hkl : ks.length = k := by have := h1.1; omega
  have keep : ∀ (A' : Option Addr) (c' : Nat) (xs : List Value), xs.length = W → Sl w 1 A' W c' xs → (∀ b o g, 0 < W → A' = some ⟨b, o, none⟩ → A = some ⟨g, 0, none⟩ → b ≠ g) → Sl w' 1 A' W c' xs := fun A' c' xs hxl hs hne => by
    refine ⟨hs.len, hs.cap, hs.top, fun j u hu => ?_⟩
    obtain ⟨b, o, e, hc⟩ := hs.cell j u hu
    have hW : 0 < W := by
      rcases Nat.eq_zero_or_pos W with h0 | h0
      · rw [h0] at hxl
        rw [List.eq_nil_of_length_eq_zero hxl] at hu
        cases hu
      · exact h0
    refine ⟨b, o, e, (hg.cell_far _ (World.block_lt_of_cell? w _ hc) fun hb => ?_).trans hc⟩
    rcases h1.2 with ⟨hv, _⟩ | ⟨g', cap', cur, hv, _⟩
    · rw [hv] at hb; cases hb
    · rw [hv] at hb
      injection hv with hA _ _
      have hb' : some b = some g' := hb
      injection hb' with hb'
      exact hne b o g' hW e hA hb'
  have sep : ∀ (A' : Option Addr) (c' : Nat) (xs : List Value), Sl w 1 A' W c' xs → (∀ b o g, 0 < W → A' = some ⟨b, o, none⟩ → A = some ⟨g, 0, none⟩ → b ≠ g) → ∀ b o g', 0 < W → A' = some ⟨b, o, none⟩ → some (⟨g, 0, none⟩ : Addr) = some ⟨g', 0, none⟩ → b ≠ g' := fun A' c' xs hs hne b o g' hW e hg' => by
    injection hg' with hg'
    injection hg' with hg' _
    subst hg'
    rcases hat with hat | hat
    · rcases h1.2 with ⟨hv, _⟩ | ⟨g2, cap', cur, hv, _⟩
      · rw [hv] at hat; cases hat
      · rw [hv] at hat
        injection hv with hA _ _
        have hat' : some g2 = some g := hat
        injection hat' with hat'
        exact hat' ▸ hne b o g2 hW e hA
    · have := hs.lt (by decide) hW e
      omega
  refine ⟨ks ++ [.slice A2 W c2], ho, fun a ha => ?_⟩
  by_cases hak : a = k
  · subst hak
    refine ⟨A2, c2, by rw [List.getElem?_append_right (by omega)]; simp [hkl], ?_, sep A2 c2 _ hs hne⟩
    rw [upd_at]
    exact keep A2 c2 _ (by rw [cells_length, rowL_length]) hs hne
  · obtain ⟨A', c', e1, e2, e3⟩ := hr a (by omega)
    refine ⟨A', c', by rw [List.getElem?_append_left (by omega)]; exact e1, ?_, sep A' c' _ e2 e3⟩
    rw [upd_other K row hak]
    exact keep A' c' _ (by rw [cells_length, rowL_length]) e2 e3

set_option maxRecDepth 20000 in
set_option maxHeartbeats 800000 in
theorem rrank_no (m : M3) (P : Option Addr) (p : Nat) (w : World) (hn : m.l.length ≤ maxLen) (hno : m.ok = false) :
    Calls Try.prog 24 #[.agg #[.int .i64 m.r, .int .i64 m.c, .slice P m.l.length p]] w fun e w' => e = .returned (.int .i64 0) ∧ Below w.heap.size w w' := by
  have Hno := Lib.hid (show rightB m.r m.c m.l.length = false from hno); clear hno
  have hb0 : Below w.heap.size w (w.alloc (m.box P p)) := (Below.refl _ _).alloc (Nat.le_refl _) _
  go_enter Try.func24, Try.ntmps24
  go_wp2_with fail
  have hh := rright_any m.r m.c P m.l.length p hn (w.alloc (m.box P p))
  refine hh.mono ?_; clear hh; rintro e w2 ⟨rfl, hb⟩
  rw [Hno.out]
  go_wp2_with fail
  go_ret
  exact ⟨rfl, hb0.trans (hb.mono hb0.size)⟩

theorem info_bs2 : (Try.prog.info? 22).map (fun i => (i.zero, i.size, i.bytes)) = some (some (.slice none 0 0), 1, 24) := by kernel_rfl

end Go.Proofs.Ytccnoflgbopjlaa

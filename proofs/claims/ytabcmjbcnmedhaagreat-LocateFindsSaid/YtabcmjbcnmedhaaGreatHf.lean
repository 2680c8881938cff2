/-
  Plain mathematics of layer 6: any k rows of a coder's factors take no data but nought to nought, so that they have an inverse. No program, no condition.
  Plain mathematics of layer 6: equations that are solved, one unknown behind the other: from above down, then from below up. A matrix of k columns of factors and, behind them, the rows' bytes. No program, no condition.
  Contracts of the document's times and less of layer 6: equations, a slice of factors and one of bytes each. No condition but bounds.
  Equations in memory, in a slice of the call's own: what solving of layer 6 writes. No condition.
  The contract of the document's right of layer 6. No condition but bounds.
  Equations that are copied into new memory, as the document's solve of layer 6 does first. No condition but bounds.
-/
import Derived.Test.YtabcmjbcnmedhaaGreatGh
import Derived.Test.YtabcmjbcnmedhaaGreatHa
import Derived.Test.YtabcmjbcnmedhaaGreatGe
import Derived.BigQuiet
namespace Go.Proofs.YtabcmjbcnmedhaaGreat
open Go.RowKit Go.Proofs

theorem ofNat_ne {a b : Nat} (ha : a < 256) (hb : b < 256) (h : a ≠ b) : UInt8.ofNat a ≠ UInt8.ofNat b := fun e => h (ofNat_inj ha hb e)
/-- Any k rows, of which no two are alike. -/
theorem any_inj {k : Nat} {l : Nat → Nat} (hk : k ≤ 256) (hl : ∀ a, a < k → l a < 256) (hd : ∀ i, i < k → ∀ j, j < i → l i ≠ l j) : Inj k (fun a j => facB k (l a) j) := by
  intro v hv j hj
  have hpf : PF k (fun z => xs k (fun j => gm (v j) (pr (fun j => UInt8.ofNat j) j k z))) := xs_pf k k _ (fun j hj => by
    have := pr_pf (fun j => UInt8.ofNat j) j k
    rw [if_pos hj] at this
    exact this.scale (v j))
  have hone : ∀ j, j < k → xs k (fun i => gm (v i) (pr (fun j => UInt8.ofNat j) i k (UInt8.ofNat j))) = gm (v j) (pr (fun j => UInt8.ofNat j) j k (UInt8.ofNat j)) := fun j hj =>
    xs_one j k hj (fun i hi hn => by rw [pr_at (fun j => UInt8.ofNat j) i (UInt8.ofNat j) k j hj (fun e => hn e.symm) rfl, gm_zero])
  have hz := hpf.roots (fun a => UInt8.ofNat (l a)) (fun i hi j hj => ofNat_ne (hl i hi) (hl j (by omega)) (hd i hi j hj)) (fun a ha => by
    have h0 : xs k (fun j => gm (facB k (l a) j) (v j)) = 0 := hv a ha
    show xs k (fun j => gm (v j) (pr (fun j => UInt8.ofNat j) j k (UInt8.ofNat (l a)))) = 0
    by_cases hla : l a < k
    · rw [hone (l a) hla]
      have h1 := xs_one (f := fun j => gm (facB k (l a) j) (v j)) (l a) k hla (fun i hi hn => by
        show gm (facB k (l a) i) (v i) = 0
        rw [facB, if_pos hla, if_neg (fun e => hn e.symm), zero_gm])
      rw [h0] at h1
      have h2 : gm (facB k (l a) (l a)) (v (l a)) = v (l a) := by rw [facB, if_pos hla, if_pos rfl, one_gm]
      rw [show v (l a) = 0 from by rw [← h2]; exact h1.symm, zero_gm]
    · have h1 := congrArg (gm (full (fun j => UInt8.ofNat j) k (UInt8.ofNat (l a)))) h0
      rw [gm_zero, gm_xs] at h1
      rw [← h1]
      apply xs_congr
      intro i hi
      have hne : UInt8.ofNat (l a) ^^^ UInt8.ofNat i ≠ 0 := fun e => ofNat_ne (hl a ha) (by omega) (show l a ≠ i by omega) (ux_eq e)
      show gm (v i) (pr (fun j => UInt8.ofNat j) i k (UInt8.ofNat (l a))) = gm (full (fun j => UInt8.ofNat j) k (UInt8.ofNat (l a))) (gm (facB k (l a) i) (v i))
      rw [facB, if_neg hla, pr_full (fun j => UInt8.ofNat j) i (UInt8.ofNat (l a)) k hi, ← gm_assoc, gm_comm (UInt8.ofNat (l a) ^^^ UInt8.ofNat i), gm_assoc (pr (fun j => UInt8.ofNat j) i k (UInt8.ofNat (l a))), gm_ginv _ hne, gm_one, gm_comm])
  have h2 := hz (UInt8.ofNat j)
  rw [hone j hj] at h2
  exact (gm_eq_zero h2).resolve_right (pr_ne (fun j => UInt8.ofNat j) j (UInt8.ofNat j) k (fun i hi hn => ofNat_ne (by omega) (by omega) (fun e => hn e.symm)))
/-- So they have an inverse, from both sides. -/
theorem any_inverse {k : Nat} {l : Nat → Nat} (hk : k ≤ 256) (hl : ∀ a, a < k → l a < 256) (hd : ∀ i, i < k → ∀ j, j < i → l i ≠ l j) : ∃ X : Mx, Alike k k (mm k X (fun a j => facB k (l a) j)) one ∧ Alike k k (mm k (fun a j => facB k (l a) j) X) one := by
  obtain ⟨X, hX⟩ := inj_right (any_inj hk hl hd)
  exact ⟨X, inverse_both hX, hX⟩
end Go.Proofs.YtabcmjbcnmedhaaGreat

namespace Go.Proofs.YtabcmjbcnmedhaaGreat
open Go.RowKit Go.Proofs

/-- X solves the first k equations: their rows are W long. -/
def Sol (k W : Nat) (X M : Mx) : Prop := ∀ a, a < k → ∀ p, p < W → xs k (fun b => gm (M a b) (X b p)) = M a (k + p)
/-- From j on there are no factors ahead of j, and none of the unknowns from j on is open. -/
structure Tl (k j : Nat) (M : Mx) : Prop where
  zero : ∀ a, j ≤ a → a < k → ∀ b, b < j → M a b = 0
  inj : ∀ v : Nat → UInt8, (∀ a, j ≤ a → a < k → xs k (fun b => gm (M a b) (v b)) = 0) → ∀ b, j ≤ b → b < k → v b = 0
/-- Above j each equation begins with its own unknown. -/
def Ut (j : Nat) (M : Mx) : Prop := ∀ a, a < j → M a a = 1 ∧ ∀ b, b < a → M a b = 0

theorem Tl.start {k : Nat} {M : Mx} (h : Inj k M) : Tl k 0 M := ⟨fun _ _ _ _ hb => absurd hb (by omega), fun v hv b _ hb => h v (fun a ha => hv a (by omega) ha) b hb⟩
/-- There is one to begin with. -/
theorem Tl.pivot {k j : Nat} {M : Mx} (h : Tl k j M) (hj : j < k) : ∃ p, j ≤ p ∧ p < k ∧ M p j ≠ 0 := by
  refine Classical.byContradiction fun hn => ?_
  have hz : ∀ a, j ≤ a → a < k → M a j = 0 := fun a h1 h2 => Decidable.byContradiction fun h0 => hn ⟨a, h1, h2, h0⟩
  have := h.inj (fun b => if b = j then 1 else 0) (fun a h1 h2 => by
    rw [xs_one j k hj (fun i hi hne => by rw [if_neg hne, gm_zero]), if_pos rfl, hz a h1 h2, zero_gm]) j (Nat.le_refl _) hj
  rw [if_pos rfl] at this
  exact absurd this (by decide)

/-- Two equations in each other's places. -/
def sw (M : Mx) (L p : Nat) : Mx := fun a => if a = p then M L else if a = L then M p else M a
/-- An equation times a number. -/
def sc (M : Mx) (L : Nat) (s : UInt8) : Mx := fun a => if a = L then fun k => gm s (M L k) else M a
/-- Equations lo to i, less what they have of unknown j, by equation j. -/
def fd (M : Mx) (j lo i : Nat) : Mx := fun a => if lo ≤ a ∧ a < i then fun c => M a c ^^^ gm (M a j) (M j c) else M a

theorem Sol.sw {k W : Nat} {X M : Mx} (h : Sol k W X M) {L p : Nat} (hL : L < k) (hp : p < k) : Sol k W X (sw M L p) := by
  intro a ha q hq
  unfold Go.Proofs.YtabcmjbcnmedhaaGreat.sw
  by_cases h1 : a = p
  · rw [if_pos h1]
    exact h L hL q hq
  · by_cases h2 : a = L
    · rw [if_neg h1, if_pos h2]
      exact h p hp q hq
    · rw [if_neg h1, if_neg h2]
      exact h a ha q hq
theorem Sol.sc {k W : Nat} {X M : Mx} (h : Sol k W X M) (L : Nat) (s : UInt8) : Sol k W X (sc M L s) := by
  intro a ha q hq
  unfold Go.Proofs.YtabcmjbcnmedhaaGreat.sc
  by_cases h1 : a = L
  · subst h1
    rw [if_pos rfl, ← h a ha q hq, gm_xs]
    exact xs_congr k fun b _ => gm_assoc _ _ _
  · rw [if_neg h1]
    exact h a ha q hq
theorem Sol.fd {k W : Nat} {X M : Mx} (h : Sol k W X M) (j lo i : Nat) (hj : j < k) : Sol k W X (fd M j lo i) := by
  intro a ha q hq
  unfold Go.Proofs.YtabcmjbcnmedhaaGreat.fd
  by_cases h1 : lo ≤ a ∧ a < i
  · rw [if_pos h1, ← h a ha q hq, ← h j hj q hq, gm_xs, ← xs_xor]
    exact xs_congr k fun b _ => by rw [xor_gm, gm_assoc]
  · rw [if_neg h1]
    exact h a ha q hq

theorem fd_start (M : Mx) (j lo : Nat) : fd M j lo lo = M := by
  funext a
  rw [fd, if_neg (by omega)]
theorem fd_next (M : Mx) (j lo i : Nat) (hlo : lo ≤ i) (hj : j < lo ∨ i ≤ j) : fd M j lo (i + 1) = fun a => if a = i then fun c => fd M j lo i i c ^^^ gm (fd M j lo i i j) (fd M j lo i j c) else fd M j lo i a := by
  funext a
  by_cases h : a = i
  · subst h
    rw [if_pos rfl, fd, if_pos (by omega), fd, if_neg (by omega), fd, if_neg (by omega)]
  · rw [if_neg h, fd, fd]
    by_cases h2 : lo ≤ a ∧ a < i
    · rw [if_pos h2, if_pos (by omega)]
    · rw [if_neg h2, if_neg (by omega)]

/-- One step from above down. -/
def stepD (k : Nat) (M : Mx) (j p : Nat) : Mx := fd (sc (sw M j p) j (ginv (M p j))) j (j + 1) k
theorem stepD_ut {k j p : Nat} {M : Mx} (hu : Ut j M) (ht : Tl k j M) (hj : j < k) (hp : j ≤ p) (hpk : p < k) (h0 : M p j ≠ 0) : Ut (j + 1) (stepD k M j p) := by
  intro a ha
  have hrow : stepD k M j p a = sc (sw M j p) j (ginv (M p j)) a := by rw [stepD, fd, if_neg (by omega)]
  rw [hrow]
  by_cases haj : a = j
  · subst haj
    have hs : ∀ c, sc (sw M a p) a (ginv (M p a)) a c = gm (ginv (M p a)) (M p c) := fun c => by
      rw [sc, if_pos rfl, sw]
      by_cases h : a = p
      · rw [if_pos h, ← h]
      · rw [if_neg h, if_pos rfl]
    refine ⟨by rw [hs, ginv_gm _ h0], fun b hb => by rw [hs, ht.zero p hp hpk b hb, gm_zero]⟩
  · have hs : sc (sw M j p) j (ginv (M p j)) a = M a := by rw [sc, if_neg haj, sw, if_neg (by omega), if_neg haj]
    rw [hs]
    exact hu a (by omega)
theorem stepD_tl {k j p : Nat} {M : Mx} (ht : Tl k j M) (hj : j < k) (hp : j ≤ p) (hpk : p < k) (h0 : M p j ≠ 0) : Tl k (j + 1) (stepD k M j p) := by
  have hrj : ∀ c, stepD k M j p j c = gm (ginv (M p j)) (M p c) := fun c => by
    rw [stepD, fd, if_neg (by omega), sc, if_pos rfl, sw]
    by_cases h : j = p
    · rw [if_pos h, ← h]
    · rw [if_neg h, if_pos rfl]
  have hra : ∀ a, j < a → a < k → ∀ c, stepD k M j p a c = sw M j p a c ^^^ gm (sw M j p a j) (stepD k M j p j c) := fun a h1 h2 c => by
    have e : stepD k M j p j = sc (sw M j p) j (ginv (M p j)) j := by rw [stepD, fd, if_neg (by omega)]
    rw [e, stepD, fd, if_pos (by omega), sc, if_neg (by omega)]
  have h1 : stepD k M j p j j = 1 := by rw [hrj, ginv_gm _ h0]
  have hswz : ∀ a, j ≤ a → a < k → ∀ b, b < j → sw M j p a b = 0 := fun a h2 h3 b hb => by
    rw [sw]
    split
    · exact ht.zero j (Nat.le_refl _) hj b hb
    · split
      · exact ht.zero p hp hpk b hb
      · exact ht.zero a h2 h3 b hb
  refine ⟨fun a ha hak b hb => ?_, fun v hv => ?_⟩
  · rw [hra a (by omega) hak]
    by_cases hbj : b = j
    · subst hbj
      rw [h1, gm_one, uxx]
    · rw [hswz a (by omega) hak b (by omega), hrj, ht.zero p hp hpk b (by omega), gm_zero, gm_zero, ux0]
  · -- the unknown j is chosen so that equation j holds, too
    obtain ⟨s, hs⟩ : ∃ s, s = xs k (fun b => if b = j then 0 else gm (stepD k M j p j b) (v b)) := ⟨_, rfl⟩
    have hsum : ∀ f : Nat → UInt8, xs k (fun b => gm (f b) (if b = j then s else v b)) = xs k (fun b => if b = j then 0 else gm (f b) (v b)) ^^^ gm (f j) s := fun f => by
      have : (fun b => gm (f b) (if b = j then s else v b)) = fun b => (if b = j then 0 else gm (f b) (v b)) ^^^ (if b = j then gm (f j) s else 0) := by
        funext b
        by_cases hb : b = j
        · subst hb; rw [if_pos rfl, if_pos rfl, if_pos rfl, uzx]
        · rw [if_neg hb, if_neg hb, if_neg hb, ux0]
      rw [this, xs_xor]
      congr 1
      rw [xs_one j k hj (fun i hi hne => by rw [if_neg hne]), if_pos rfl]
    have hj0 : xs k (fun b => gm (stepD k M j p j b) (if b = j then s else v b)) = 0 := by
      rw [hsum, h1, one_gm, ← hs, uxx]
    have ha0 : ∀ a, j < a → a < k → xs k (fun b => gm (stepD k M j p a b) (if b = j then s else v b)) = 0 := fun a h2 h3 => by
      have hz : stepD k M j p a j = 0 := by rw [hra a h2 h3, h1, gm_one, uxx]
      rw [← hv a (by omega) h3]
      apply xs_congr
      intro b hb
      by_cases hbj : b = j
      · subst hbj; rw [if_pos rfl, hz, zero_gm, zero_gm]
      · rw [if_neg hbj]
    have hsw0 : ∀ a, j ≤ a → a < k → xs k (fun b => gm (sw M j p a b) (if b = j then s else v b)) = 0 := fun a h2 h3 => by
      by_cases haj : a = j
      · subst haj
        have h5 := congrArg (gm (M p a)) hj0
        rw [gm_zero, gm_xs] at h5
        rw [← h5]
        apply xs_congr
        intro b hb
        rw [hrj, ← gm_assoc, ← gm_assoc, gm_ginv _ h0, one_gm, sw]
        by_cases h : a = p
        · rw [if_pos h, ← h]
        · rw [if_neg h, if_pos rfl]
      · have h5 := ha0 a (by omega) h3
        have h6 : xs k (fun b => gm (stepD k M j p a b) (if b = j then s else v b)) = xs k (fun b => gm (sw M j p a b) (if b = j then s else v b)) ^^^ gm (sw M j p a j) (xs k (fun b => gm (stepD k M j p j b) (if b = j then s else v b))) := by
          rw [gm_xs, ← xs_xor]
          apply xs_congr
          intro b hb
          rw [hra a (by omega) h3, xor_gm, gm_assoc]
        rw [h6, hj0, gm_zero, ux0] at h5
        exact h5
    have hM0 : ∀ a, j ≤ a → a < k → xs k (fun b => gm (M a b) (if b = j then s else v b)) = 0 := fun a h2 h3 => by
      by_cases hap : a = p
      · subst hap
        have := hsw0 j (Nat.le_refl _) hj
        rw [sw] at this
        by_cases h : j = a
        · rw [if_pos h] at this
          rw [← h]; exact this
        · rw [if_neg h, if_pos rfl] at this
          exact this
      · by_cases haj : a = j
        · have := hsw0 p hp hpk
          rw [sw, if_pos rfl] at this
          rw [haj]; exact this
        · have := hsw0 a h2 h3
          rw [sw, if_neg hap, if_neg haj] at this
          exact this
    intro b hb hbk
    have := ht.inj _ hM0 b (by omega) hbk
    rwa [if_neg (by omega)] at this
theorem stepD_sol {k W j p : Nat} {X M : Mx} (h : Sol k W X M) (hj : j < k) (hpk : p < k) : Sol k W X (stepD k M j p) := ((h.sw hj hpk).sc j _).fd j (j + 1) k hj

/-- From below up: the unknowns from j on are known by their own equations alone. -/
structure Bk (k j : Nat) (M : Mx) : Prop where
  ut : Ut k M
  clear : ∀ b, j ≤ b → b < k → ∀ a, a < b → M a b = 0
theorem Bk.row {k W j : Nat} {X M : Mx} (h : Bk k (j + 1) M) (hs : Sol k W X M) (hj : j < k) (p : Nat) (hp : p < W) : M j (k + p) = X j p := by
  have h1 := hs j hj p hp
  rw [← h1, xs_one j k hj (fun i hi hne => ?_), (h.ut j hj).1, one_gm]
  rcases Nat.lt_or_ge i j with h2 | h2
  · rw [(h.ut j hj).2 i h2, zero_gm]
  · rw [h.clear i (by omega) hi j (by omega), zero_gm]
theorem Bk.step {k j : Nat} {M : Mx} (h : Bk k (j + 1) M) (hj : j < k) : Bk k j (fd M j 0 j) := by
  have hother : ∀ a, ¬ a < j → fd M j 0 j a = M a := fun a ha => by rw [fd, if_neg (by omega)]
  have hrow : ∀ b, b < k → b ≠ j → M j b = 0 := fun b hb hne => by
    rcases Nat.lt_or_ge b j with h2 | h2
    · exact (h.ut j hj).2 b h2
    · exact h.clear b (by omega) hb j (by omega)
  have hin : ∀ a, a < j → ∀ b, b < k → b ≠ j → fd M j 0 j a b = M a b := fun a ha b hb hne => by rw [fd, if_pos (by omega), hrow b hb hne, gm_zero, ux0]
  refine ⟨fun a ha => ?_, fun b hb hbk a ha => ?_⟩
  · by_cases haj : a < j
    · refine ⟨by rw [hin a haj a ha (by omega)]; exact (h.ut a ha).1, fun b hb => by rw [hin a haj b (by omega) (by omega)]; exact (h.ut a ha).2 b hb⟩
    · rw [hother a haj]
      exact h.ut a ha
  · by_cases hbj : b = j
    · subst hbj
      rw [fd, if_pos (by omega), (h.ut b hbk).1, gm_one, uxx]
    · by_cases haj : a < j
      · rw [hin a haj b hbk hbj]
        exact h.clear b (by omega) hbk a ha
      · rw [hother a haj]
        exact h.clear b (by omega) hbk a ha
theorem Bk.start {k : Nat} {M : Mx} (h : Ut k M) : Bk k k M := ⟨h, fun b h1 h2 => absurd h2 (by omega)⟩
end Go.Proofs.YtabcmjbcnmedhaaGreat

namespace Go.Proofs.YtabcmjbcnmedhaaGreat
open Go.RowKit Go.Proofs
set_option linter.unusedVariables false

/-- A value that reads as an equation: factors f, bytes r. -/
def EqV (w : World) (v : Value) (f r : List UInt8) : Prop := ∃ A n c A2 n2 c2, v = .agg #[.slice A n c, .slice A2 n2 c2] ∧ Sl w 1 A n c (cells f) ∧ Sl w 1 A2 n2 c2 (cells r)
theorem EqV.later {w w' : World} {v : Value} {f r : List UInt8} (h : EqV w v f r) (hb : Below w.heap.size w w') : EqV w' v f r := by
  obtain ⟨A, n, c, A2, n2, c2, e, h1, h2⟩ := h
  exact ⟨A, n, c, A2, n2, c2, e, h1.below hb (Nat.le_refl _), h2.below hb (Nat.le_refl _)⟩
/-- Bytes don't lie in a box of slices. -/
theorem sl_ne_eq {w : World} {A : Option Addr} {n c g : Nat} {l : List UInt8} {t : TypeId} {a b : Option Addr} {i j x y : Nat} (h : Sl w 1 A n c (cells l)) (hg : w.heap[g]? = some (.cells #[.slice a i x, .slice b j y] t (0, 0))) {d o : Nat} (hn : 0 < n) (hA : A = some ⟨d, o, none⟩) : d ≠ g := by
  rintro rfl
  obtain ⟨b', o', e, hc⟩ := h.at_ hn
  rw [hA] at e
  injection e with e
  injection e with e1 e2
  subst e1; subst e2
  have hl := h.len
  rw [cells_length, Nat.mul_one] at hl
  have h0 := hc 0 _ (cells_get l 0 (by omega))
  rw [cell_of_row _ _ _ _ _ _ hg, Nat.add_zero] at h0
  rcases o with _ | _ | o
  · simp [bv] at h0
  · simp [bv] at h0
  · simp at h0
/-- What a call answers that makes an equation. -/
def RetEq (f r : List UInt8) (w : World) (e : Ending) (w' : World) : Prop := (∃ v, e = .returned v ∧ EqV w' v f r) ∧ Below w.heap.size w w'

end Go.Proofs.YtabcmjbcnmedhaaGreat

namespace Go.Proofs.YtabcmjbcnmedhaaGreat
open Go.RowKit Go.Proofs
set_option linter.unusedVariables false

section
variable {w w' : World} {g k W : Nat} {M : Mx}
end
end Go.Proofs.YtabcmjbcnmedhaaGreat

namespace Go.Proofs.YtabcmjbcnmedhaaGreat
open Go.RowKit Go.Proofs
set_option linter.unusedVariables false

/-- Are those of the rows that have bytes of one length? -/
def levelT (rs : List (List UInt8)) : Bool := decide (∀ a, a < (thereL rs rs.length).length → (rs.getD ((thereL rs rs.length).getD a 0) []).length = (rs.getD ((thereL rs rs.length).getD 0 0) []).length)
/-- The error of any rows. -/
def rightX (k m : Nat) (rs : List (List UInt8)) : Int := if rs.length ≠ k + m then 2 else if levelT rs = false then 2 else if (thereL rs rs.length).length < k then 60 else 0
theorem thereL_lt {rs : List (List UInt8)} {j a : Nat} (h : a < (thereL rs j).length) : (thereL rs j).getD a 0 < j := by
  have hm : (thereL rs j)[a] ∈ (List.range j).filter (fun i => decide (0 < (rs.getD i []).length)) := List.getElem_mem h
  rw [List.mem_filter, List.mem_range] at hm
  rw [show (thereL rs j).getD a 0 = (thereL rs j)[a] from by simp [h]]
  exact hm.1

end Go.Proofs.YtabcmjbcnmedhaaGreat

namespace Go.Proofs.YtabcmjbcnmedhaaGreat
open Go.RowKit Go.Proofs
set_option linter.unusedVariables false

theorem zeroEq_slice (m i : Nat) (u : Value) (h : (Builtin.zeroCells #[.slice none 0 0, .slice none 0 0] m)[i]? = some u) : ∃ a n c, u = Value.slice a n c := by
  unfold Builtin.zeroCells at h
  rw [Array.getElem?_map] at h
  obtain ⟨j, _, hj⟩ := Option.map_eq_some_iff.1 h
  have h2 : j % 2 = 0 ∨ j % 2 = 1 := by omega
  rcases h2 with h2 | h2
  · exact ⟨none, 0, 0, by rw [← hj]; simp [h2]⟩
  · exact ⟨none, 0, 0, by rw [← hj]; simp [h2]⟩
end Go.Proofs.YtabcmjbcnmedhaaGreat

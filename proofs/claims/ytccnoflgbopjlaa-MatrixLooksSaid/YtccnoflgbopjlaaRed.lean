/-
  Plain mathematics: rows are made into others by swapping, scaling and adding, so that some lead; what that tells of rank and inverse. No program, no condition.
-/
import Derived.Test.YtccnoflgbopjlaaLina
namespace Go.Proofs.Ytccnoflgbopjlaa

theorem xs_cut {f : Nat → UInt8} {L : Nat} : ∀ n, L ≤ n → (∀ i, L ≤ i → i < n → f i = 0) → xs n f = xs L f
  | 0, h, _ => by rw [show L = 0 from by omega]
  | n + 1, h, hz => by
    by_cases he : L = n + 1
    · rw [he]
    · rw [xs, xs_cut n (by omega) (fun i h1 h2 => hz i h1 (by omega)), hz n (by omega) (by omega), ux0]
/-- Each row of M' is a sum of multiples of M's. -/
def Comb (n W : Nat) (M' M : Mx) : Prop := ∃ E : Mx, Alike n W M' (mm n E M)
theorem Comb.refl (n W : Nat) (M : Mx) : Comb n W M M := ⟨one, fun i hi j _ => (mm_one_left n M i j hi).symm⟩
theorem Comb.trans {n W : Nat} {A B C : Mx} (h : Comb n W A B) (k : Comb n W B C) : Comb n W A C := by
  obtain ⟨E, hE⟩ := h
  obtain ⟨F, hF⟩ := k
  refine ⟨mm n E F, fun i hi j hj => ?_⟩
  rw [hE i hi j hj, mm_congr (r := n) (c := W) (fun _ _ _ _ => rfl) hF i hi j hj, mm_assoc]
theorem two_rows {n a b : Nat} (ha : a < n) (hb : b < n) (x y : UInt8) (f : Nat → UInt8) : xs n (fun j => gm ((if j = a then x else 0) ^^^ (if j = b then y else 0)) (f j)) = gm x (f a) ^^^ gm y (f b) := by
  have e : (fun j => gm ((if j = a then x else 0) ^^^ (if j = b then y else 0)) (f j)) = fun j => gm (if j = a then x else 0) (f j) ^^^ gm (if j = b then y else 0) (f j) := by
    funext j
    rw [xor_gm]
  rw [e, xs_xor, xs_one a n ha (fun j _ hj => by rw [if_neg hj, zero_gm]), xs_one b n hb (fun j _ hj => by rw [if_neg hj, zero_gm]), if_pos rfl, if_pos rfl]
theorem comb_of {n W : Nat} {M' M : Mx} (h : ∀ i, i < n → ∃ a b, a < n ∧ b < n ∧ ∃ x y, ∀ k, k < W → M' i k = gm x (M a k) ^^^ gm y (M b k)) : Comb n W M' M := by
  have h' : ∀ i, ∃ e : Nat → UInt8, i < n → ∀ k, k < W → M' i k = xs n (fun j => gm (e j) (M j k)) := by
    intro i
    by_cases hi : i < n
    · obtain ⟨a, b, ha, hb, x, y, hk⟩ := h i hi
      exact ⟨fun j => (if j = a then x else 0) ^^^ (if j = b then y else 0), fun _ k hW => by rw [hk k hW, two_rows ha hb x y (fun j => M j k)]⟩
    · exact ⟨fun _ => 0, fun hh => absurd hh hi⟩
  exact ⟨fun i j => (h' i).choose j, fun i hi k hk => (h' i).choose_spec hi k hk⟩

/-- Row i is f, all others are as they were. -/
def upd (M : Mx) (i : Nat) (f : Nat → UInt8) : Mx := fun k => if k = i then f else M k
theorem upd_at (M : Mx) (i : Nat) (f : Nat → UInt8) : upd M i f i = f := if_pos rfl
theorem upd_other (M : Mx) {i k : Nat} (f : Nat → UInt8) (h : k ≠ i) : upd M i f k = M k := if_neg h
/-- Two rows are swapped. -/
def swp (M : Mx) (L p : Nat) : Mx := upd (upd M L (M p)) p (M L)
/-- A row is scaled. -/
def scl (M : Mx) (L : Nat) (s : UInt8) : Mx := upd M L fun k => gm s (M L k)
/-- Of the first j rows but L so much of row L is taken away that nothing is left in column c. -/
def fo (M : Mx) (L c j : Nat) : Mx := fun i k => if i < j ∧ i ≠ L then M i k ^^^ gm (M i c) (M L k) else M i k
theorem fo_zero (M : Mx) (L c : Nat) : fo M L c 0 = M := by funext i k; simp [fo]
theorem fo_next (M : Mx) (L c j : Nat) : fo M L c (j + 1) = upd (fo M L c j) j (fun k => if j ≠ L then M j k ^^^ gm (M j c) (M L k) else M j k) := by
  funext i k
  unfold upd
  by_cases hi : i = j
  · subst hi
    by_cases hL : i = L <;> simp [fo, hL]
  · have : (i < j + 1) = (i < j) := by apply propext; omega
    rw [if_neg hi]
    simp only [fo, this]
theorem fo_skip (M : Mx) (L c j : Nat) (h : j = L ∨ M j c = 0) : fo M L c (j + 1) = fo M L c j := by
  funext i k
  by_cases hi : i = j
  · subst hi
    rcases h with h | h
    · simp [fo, h]
    · simp [fo, h, zero_gm]
  · have : (i < j + 1) = (i < j) := by apply propext; omega
    simp only [fo, this]
theorem fo_row (M : Mx) (L c j i : Nat) (h : j ≤ i ∨ i = L) : fo M L c j i = M i := by
  funext k
  unfold fo
  rw [if_neg (by omega)]

/-- A lead: row p comes to L, has a 1 in column c, and no other row has anything there. -/
def stp (n : Nat) (M : Mx) (L c p : Nat) (s : UInt8) : Mx := fo (scl (swp M L p) L s) L c n
theorem stp_L (n : Nat) (M : Mx) (L c p : Nat) (s : UInt8) (k : Nat) : stp n M L c p s L k = gm s (M p k) := by
  rw [stp, fo_row _ _ _ _ _ (.inr rfl), scl, upd_at]
  by_cases h : p = L
  · subst h; rw [swp, upd_at]
  · rw [swp, upd_other _ _ (fun e => h e.symm), upd_at]
theorem stp_o (n : Nat) (M : Mx) (L c p : Nat) (s : UInt8) (i k : Nat) (hi : i < n) (hL : i ≠ L) :
    stp n M L c p s i k = M (if i = p then L else i) k ^^^ gm (gm (M (if i = p then L else i) c) s) (M p k) := by
  have hrow : scl (swp M L p) L s i = M (if i = p then L else i) := by
    rw [scl, upd_other _ _ hL, swp]
    by_cases h : i = p
    · rw [if_pos h, h, upd_at]
    · rw [if_neg h, upd_other _ _ h, upd_other _ _ hL]
  have hlead : scl (swp M L p) L s L k = gm s (M p k) := by
    have := stp_L n M L c p s k
    rwa [stp, fo_row _ _ _ _ _ (.inr rfl)] at this
  rw [stp]
  unfold fo
  rw [if_pos ⟨hi, hL⟩, hrow, hlead, gm_assoc]

/-- Rows M of n, W wide, are what rows A were made into; of the first c columns L lead. -/
structure Led (n W c : Nat) (A M : Mx) (L : Nat) (ld : Nat → Nat) : Prop where
  to : Comb n W M A
  back : Comb n W A M
  le : L ≤ n
  lead : ∀ a, a < L → ld a < c ∧ ∀ i, i < n → M i (ld a) = if i = a then 1 else 0
  rise : ∀ a b, a < b → b < L → ld a < ld b
  none : ∀ i, L ≤ i → i < n → ∀ k, k < c → M i k = 0
theorem Led.start (n W : Nat) (A : Mx) : Led n W 0 A A 0 id :=
  ⟨Comb.refl _ _ _, Comb.refl _ _ _, by omega, fun a h => absurd h (by omega), fun a b _ h => absurd h (by omega), fun i _ _ k h => absurd h (by omega)⟩
theorem Led.skip {n W c L : Nat} {A M : Mx} {ld : Nat → Nat} (h : Led n W c A M L ld) (hz : ∀ i, L ≤ i → i < n → M i c = 0) : Led n W (c + 1) A M L ld :=
  ⟨h.to, h.back, h.le, fun a ha => ⟨by have := (h.lead a ha).1; omega, (h.lead a ha).2⟩, h.rise, fun i h1 h2 k hk => by
    by_cases he : k = c
    · rw [he]; exact hz i h1 h2
    · exact h.none i h1 h2 k (by omega)⟩
theorem Led.next {n W c L p : Nat} {A M : Mx} {ld : Nat → Nat} (h : Led n W c A M L ld) (hp : L ≤ p) (hpn : p < n) (hx : M p c ≠ 0) :
    Led n W (c + 1) A (stp n M L c p (ginv (M p c))) (L + 1) (fun a => if a = L then c else ld a) := by
  have hgs : gm (ginv (M p c)) (M p c) = 1 := ginv_gm _ hx
  have hsg : gm (M p c) (ginv (M p c)) = 1 := gm_ginv _ hx
  generalize hs : ginv (M p c) = s at *
  have hLn : L < n := by omega
  have hσ : ∀ i, i < n → (if i = p then L else i) < n := fun i hi => by split <;> omega
  refine ⟨Comb.trans (comb_of fun i hi => ?_) h.to, h.back.trans (comb_of fun j hj => ?_), hLn, fun a ha => ?_, fun a b hab hb => ?_, fun i h1 h2 k hk => ?_⟩
  · by_cases hL : i = L
    · subst hL
      exact ⟨p, p, hpn, hpn, s, 0, fun k _ => by rw [stp_L, zero_gm, ux0]⟩
    · exact ⟨_, p, hσ i hi, hpn, 1, _, fun k _ => by rw [stp_o n M L c p s i k hi hL, one_gm]⟩
  · by_cases hjp : j = p
    · subst hjp
      exact ⟨L, L, hLn, hLn, M j c, 0, fun k _ => by rw [stp_L, ← gm_assoc, hsg, one_gm, zero_gm, ux0]⟩
    · by_cases hjL : j = L
      · subst hjL
        refine ⟨p, j, hpn, hj, 1, M j c, fun k _ => ?_⟩
        rw [stp_o n M j c p s p k hpn (fun e => hjp e.symm), stp_L, if_pos rfl, one_gm, gm_assoc, ux_cancel]
      · refine ⟨j, L, hj, hLn, 1, M j c, fun k _ => ?_⟩
        rw [stp_o n M L c p s j k hj hjL, stp_L, if_neg hjp, one_gm, gm_assoc, ux_cancel]
  · by_cases haL : a = L
    · subst haL
      simp only [if_pos]
      refine ⟨by omega, fun i hi => ?_⟩
      by_cases hi2 : i = a
      · rw [if_pos hi2, hi2, stp_L, hgs]
      · rw [if_neg hi2, stp_o n M a c p s i c hi hi2, gm_assoc, hgs, gm_one, uxx]
    · simp only [if_neg haL]
      have ha2 : a < L := by omega
      obtain ⟨h1, h2⟩ := h.lead a ha2
      have hp0 : M p (ld a) = 0 := by rw [h2 p hpn, if_neg (by omega)]
      refine ⟨by omega, fun i hi => ?_⟩
      by_cases hi2 : i = L
      · rw [hi2, stp_L, hp0, gm_zero, if_neg (by omega)]
      · rw [stp_o n M L c p s i _ hi hi2, hp0, gm_zero, ux0, h2 _ (hσ i hi)]
        by_cases hip : i = p
        · rw [if_pos hip, if_neg (by omega), if_neg (by omega)]
        · rw [if_neg hip]
  · by_cases hbL : b = L
    · subst hbL
      simp only [if_pos]
      rw [if_neg (by omega)]
      exact (h.lead a (by omega)).1
    · simp only [if_neg hbL]
      rw [if_neg (by omega)]
      exact h.rise a b hab (by omega)
  · have hiL : i ≠ L := by omega
    rw [stp_o n M L c p s i k h2 hiL]
    by_cases hkc : k = c
    · subst hkc
      rw [gm_assoc, hgs, gm_one, uxx]
    · rw [h.none p hp hpn k (by omega), gm_zero, ux0]
      refine h.none _ ?_ (hσ i h2) k (by omega)
      split <;> omega

/-- How many lead is the rank. -/
theorem Led.rk {n W c L : Nat} {A M : Mx} {ld : Nat → Nat} (h : Led n W c A M L ld) (hc : c ≤ W) : Rk n c A L := by
  refine ⟨?_, fun k' hk hf => ?_⟩
  · obtain ⟨H, hH⟩ := h.back
    refine ⟨H, M, fun i hi j hj => ?_⟩
    rw [hH i hi j (by omega)]
    exact xs_cut n h.le (fun l h1 h2 => by rw [h.none l h1 h2 j hj, gm_zero])
  · obtain ⟨G, hG⟩ := h.to
    have hf2 : Fac n c k' M := (hf.left (r := n) (D := G)).congr fun i hi j hj => (hG i hi j (by omega)).symm
    obtain ⟨C, R, hCR⟩ := hf2
    refine echelon_least (k := L) (c := c) (K := M) (ld := ld) (fun a ha => (h.lead a ha).1) (fun a ha => ?_) (fun a b ha hb => ?_) k' hk ⟨C, R, fun i hi j hj => hCR i (Nat.lt_of_lt_of_le hi h.le) j hj⟩
    · rw [(h.lead a ha).2 a (by have := h.le; omega), if_pos rfl]
      decide
    · rw [(h.lead b (by omega)).2 a (by have := h.le; omega), if_neg (by omega)]

/-- M with the identity behind it. -/
def aug (n : Nat) (m : Mx) : Mx := fun i k => if k < n then m i k else one i (k - n)
theorem Led.rk_aug {n L : Nat} {m M : Mx} {ld : Nat → Nat} (h : Led n (n + n) n (aug n m) M L ld) : Rk n n m L := by
  have hr := h.rk (by omega)
  have e : Alike n n (aug n m) m := fun i _ j hj => by rw [aug, if_pos hj]
  exact ⟨hr.fac.congr e, fun k' hk hf => hr.least k' hk (hf.congr fun i hi j hj => (e i hi j hj).symm)⟩
theorem rise_id {n : Nat} {ld : Nat → Nat} (hl : ∀ a, a < n → ld a < n) (hr : ∀ a b, a < b → b < n → ld a < ld b) : ∀ a, a < n → ld a = a := by
  have up : ∀ a, a < n → a ≤ ld a := by
    intro a
    induction a with
    | zero => intro _; omega
    | succ a ih =>
      intro ha
      have := ih (by omega)
      have := hr a (a + 1) (by omega) ha
      omega
  have down : ∀ d a, a + d + 1 = n → ld a ≤ a := by
    intro d
    induction d with
    | zero => intro a ha; have := hl a (by omega); omega
    | succ d ih =>
      intro a ha
      have h1 := ih (a + 1) (by omega)
      have h2 := hr a (a + 1) (by omega) (by omega)
      omega
  intro a ha
  have h1 := up a ha
  have h2 := down (n - 1 - a) a (by omega)
  omega
/-- If all lead, the inverse stands behind. -/
theorem Led.inverse {n : Nat} {m M : Mx} {ld : Nat → Nat} (h : Led n (n + n) n (aug n m) M n ld) : Alike n n (mm n (fun i j => M i (n + j)) m) one := by
  have hid := rise_id (fun a ha => (h.lead a ha).1) h.rise
  obtain ⟨G, hG⟩ := h.to
  have hX : Alike n n (fun i j => M i (n + j)) G := fun i hi j hj => by
    show M i (n + j) = G i j
    rw [hG i hi (n + j) (by omega), mm, xs_one j n hj (fun l _ hl => by rw [aug, if_neg (by omega), one, if_neg (by omega), gm_zero]), aug, if_neg (by omega), one, if_pos (by omega), gm_one]
  intro i hi j hj
  rw [mm_congr (r := n) (c := n) (B' := m) hX (fun _ _ _ _ => rfl) i hi j hj]
  have h1 := (h.lead j hj).2 i hi
  rw [hid j hj] at h1
  rw [one, ← h1, hG i hi j (by omega)]
  exact xs_congr n fun k _ => by rw [aug, if_pos hj]
end Go.Proofs.Ytccnoflgbopjlaa

/-
  Plain linear algebra over the field of 256 bytes: sums, products of matrices, more unknowns than equations, inverses from both sides, rank. No program, no condition.
-/
import Derived.Test.YtccnoflgbopjlaaGf
namespace Go.Proofs.Ytccnoflgbopjlaa

theorem ux0 (a : UInt8) : a ^^^ 0 = a := UInt8.xor_zero
theorem uzx (a : UInt8) : 0 ^^^ a = a := UInt8.zero_xor
theorem uxx (a : UInt8) : a ^^^ a = 0 := UInt8.xor_self
theorem uxor4 (a b c d : UInt8) : (a ^^^ b) ^^^ (c ^^^ d) = (a ^^^ c) ^^^ (b ^^^ d) := by
  rw [UInt8.xor_assoc, UInt8.xor_assoc, ← UInt8.xor_assoc b c d, UInt8.xor_comm b c, UInt8.xor_assoc c b d]
theorem ux_eq {a b : UInt8} (h : a ^^^ b = 0) : a = b := by
  have := congrArg (· ^^^ b) h
  simpa [UInt8.xor_assoc] using this
theorem ux_cancel (a b : UInt8) : (a ^^^ b) ^^^ b = a := by rw [UInt8.xor_assoc, uxx, ux0]

/-- The sum of the first n. -/
def xs : Nat → (Nat → UInt8) → UInt8
  | 0, _ => 0
  | n + 1, f => xs n f ^^^ f n
theorem xs_congr {f g : Nat → UInt8} : ∀ n, (∀ i, i < n → f i = g i) → xs n f = xs n g
  | 0, _ => rfl
  | n + 1, h => by rw [xs, xs, xs_congr n (fun i hi => h i (by omega)), h n (by omega)]
theorem xs_none {f : Nat → UInt8} : ∀ n, (∀ i, i < n → f i = 0) → xs n f = 0
  | 0, _ => rfl
  | n + 1, h => by rw [xs, xs_none n (fun i hi => h i (by omega)), h n (by omega), ux0]
theorem xs_xor (f g : Nat → UInt8) : ∀ n, xs n (fun i => f i ^^^ g i) = xs n f ^^^ xs n g
  | 0 => (ux0 0).symm
  | n + 1 => by rw [xs, xs, xs, xs_xor f g n, uxor4]
theorem gm_xs (c : UInt8) (f : Nat → UInt8) : ∀ n, gm c (xs n f) = xs n (fun i => gm c (f i))
  | 0 => gm_zero c
  | n + 1 => by rw [xs, xs, gm_xor, gm_xs c f n]
theorem xs_gm (c : UInt8) (f : Nat → UInt8) (n : Nat) : gm (xs n f) c = xs n (fun i => gm (f i) c) := by
  rw [gm_comm, gm_xs]
  exact xs_congr n (fun i _ => gm_comm _ _)
theorem xs_swap (f : Nat → Nat → UInt8) (m : Nat) : ∀ n, xs n (fun i => xs m (fun j => f i j)) = xs m (fun j => xs n (fun i => f i j))
  | 0 => (xs_none m (fun _ _ => rfl)).symm
  | n + 1 => by
    rw [xs, xs_swap f m n, ← xs_xor]
    rfl
theorem xs_one {f : Nat → UInt8} (j : Nat) : ∀ n, j < n → (∀ i, i < n → i ≠ j → f i = 0) → xs n f = f j
  | 0, h, _ => absurd h (by omega)
  | n + 1, h, hz => by
    rw [xs]
    by_cases hj : j = n
    · subst hj
      rw [xs_none _ (fun i hi => hz i (by omega) (by omega)), uzx]
    · rw [xs_one j n (by omega) (fun i hi h' => hz i (by omega) h'), hz n (by omega) (fun e => hj e.symm), ux0]

/-- All but the p-th. -/
def skip (p j : Nat) : Nat := if j < p then j else j + 1
theorem xs_skip (f : Nat → UInt8) (p : Nat) : ∀ n, p ≤ n → xs (n + 1) f = xs n (fun j => f (skip p j)) ^^^ f p
  | 0, h => by
    obtain rfl : p = 0 := by omega
    rfl
  | n + 1, h => by
    by_cases hp : p = n + 1
    · subst hp
      rw [xs]
      congr 1
      exact xs_congr _ (fun i hi => by rw [skip, if_pos hi])
    · rw [xs, xs_skip f p n (by omega), xs, UInt8.xor_assoc, UInt8.xor_comm (f p), ← UInt8.xor_assoc]
      congr 2
      rw [skip, if_neg (by omega)]
theorem skip_ne (p j : Nat) : skip p j ≠ p := by
  unfold skip
  split <;> omega
theorem skip_lt {p j n : Nat} (h : j < n) : skip p j < n + 1 := by
  unfold skip
  split <;> omega
/-- The place that skip leads to k. -/
def unskip (p k : Nat) : Nat := if k < p then k else k - 1
theorem skip_unskip {p k : Nat} (h : k ≠ p) : skip p (unskip p k) = k := by
  unfold skip unskip
  by_cases h1 : k < p
  · simp only [if_pos h1]
  · rw [if_neg h1, if_neg (by omega)]
    omega
theorem unskip_lt {p k n : Nat} (h : k ≠ p) (hk : k < n + 1) (hp : p < n + 1) : unskip p k < n := by
  unfold unskip
  split <;> omega
theorem unskip_skip (p j : Nat) : unskip p (skip p j) = j := by
  unfold skip unskip
  by_cases h1 : j < p
  · simp only [if_pos h1]
  · rw [if_neg h1, if_neg (by omega)]
    omega

abbrev Mx := Nat → Nat → UInt8
/-- The product, over n places. -/
def mm (n : Nat) (A B : Mx) : Mx := fun i j => xs n (fun k => gm (A i k) (B k j))
/-- A matrix times a column. -/
def mv (n : Nat) (A : Mx) (v : Nat → UInt8) : Nat → UInt8 := fun i => xs n (fun k => gm (A i k) (v k))
def one : Mx := fun i j => if i = j then 1 else 0
/-- Alike, as far as r rows and c columns go. -/
def Alike (r c : Nat) (A B : Mx) : Prop := ∀ i, i < r → ∀ j, j < c → A i j = B i j

theorem mm_assoc (n m : Nat) (A B C : Mx) : mm m (mm n A B) C = mm n A (mm m B C) := by
  funext i j
  unfold mm
  rw [show (fun k => gm (xs n fun k_1 => gm (A i k_1) (B k_1 k)) (C k j)) = (fun k => xs n fun l => gm (gm (A i l) (B l k)) (C k j)) from by
    funext k
    exact xs_gm _ _ _]
  rw [xs_swap]
  apply xs_congr
  intro l _
  rw [gm_xs]
  apply xs_congr
  intro k _
  rw [gm_assoc]
theorem mv_mm (n m : Nat) (A B : Mx) (v : Nat → UInt8) : mv m (mm n A B) v = mv n A (mv m B v) := by
  funext i
  exact congrFun (congrFun (mm_assoc n m A B (fun k _ => v k)) i) 0
theorem mm_congr {n r c : Nat} {A A' B B' : Mx} (hA : Alike r n A A') (hB : Alike n c B B') : Alike r c (mm n A B) (mm n A' B') := fun i hi j hj =>
  xs_congr n (fun k hk => by rw [hA i hi k hk, hB k hk j hj])
theorem mv_congr {n : Nat} {A A' : Mx} {v v' : Nat → UInt8} {i : Nat} (hA : ∀ k, k < n → A i k = A' i k) (hv : ∀ k, k < n → v k = v' k) : mv n A v i = mv n A' v' i :=
  xs_congr n (fun k hk => by rw [hA k hk, hv k hk])
theorem mm_one_right (n : Nat) (A : Mx) (i j : Nat) (hj : j < n) : mm n A one i j = A i j := by
  unfold mm
  rw [xs_one j n hj (fun k _ hk => by rw [one, if_neg hk, gm_zero])]
  rw [one, if_pos rfl, gm_one]
theorem mm_one_left (n : Nat) (A : Mx) (i j : Nat) (hi : i < n) : mm n one A i j = A i j := by
  unfold mm
  rw [xs_one i n hi (fun k _ hk => by rw [one, if_neg (fun e => hk e.symm), zero_gm])]
  rw [one, if_pos rfl, one_gm]
theorem mv_one (n : Nat) (v : Nat → UInt8) (i : Nat) (hi : i < n) : mv n one v i = v i := mm_one_left n (fun k _ => v k) i 0 hi
theorem mv_none {n : Nat} (A : Mx) {v : Nat → UInt8} (h : ∀ k, k < n → v k = 0) (i : Nat) : mv n A v i = 0 := xs_none n (fun k hk => by rw [h k hk, gm_zero])

/-- More unknowns than equations: a solution that isn't nought. -/
theorem more_unknowns : ∀ (r n : Nat) (A : Mx), r < n → ∃ v : Nat → UInt8, (∃ j, j < n ∧ v j ≠ 0) ∧ ∀ i, i < r → mv n A v i = 0
  | 0, n, A, h => ⟨fun _ => 1, ⟨0, h, (by decide : (1 : UInt8) ≠ 0)⟩, fun i hi => absurd hi (by omega)⟩
  | r + 1, n, A, h => by
    by_cases hz : ∀ j, j < n → A r j = 0
    · obtain ⟨v, hv, hs⟩ := more_unknowns r n A (by omega)
      refine ⟨v, hv, fun i hi => ?_⟩
      by_cases he : i = r
      · subst he
        exact xs_none n (fun k hk => by rw [hz k hk, zero_gm])
      · exact hs i (by omega)
    · have : ∃ p, p < n ∧ A r p ≠ 0 := Decidable.byContradiction fun hh => hz fun j hj => Decidable.byContradiction fun hne => hh ⟨j, hj, hne⟩
      obtain ⟨p, hp, hap⟩ := this
      obtain ⟨n', rfl⟩ : ∃ n', n = n' + 1 := ⟨n - 1, by omega⟩
      let c := ginv (A r p)
      obtain ⟨v', ⟨j, hj, hv'⟩, hs⟩ := more_unknowns r n' (fun i j => A i (skip p j) ^^^ gm (gm (A i p) c) (A r (skip p j))) (by omega)
      let t := gm c (xs n' (fun j => gm (A r (skip p j)) (v' j)))
      refine ⟨fun k => if k = p then t else v' (unskip p k), ⟨skip p j, skip_lt hj, ?_⟩, fun i hi => ?_⟩
      · show (if skip p j = p then t else v' (unskip p (skip p j))) ≠ 0
        rw [if_neg (skip_ne p j), unskip_skip]
        exact hv'
      · have e1 : mv (n' + 1) A (fun k => if k = p then t else v' (unskip p k)) i = xs n' (fun j => gm (A i (skip p j)) (v' j)) ^^^ gm (A i p) t := by
          unfold mv
          rw [xs_skip _ p n' (by omega)]
          congr 1
          · apply xs_congr
            intro j _
            dsimp only
            rw [if_neg (skip_ne p j), unskip_skip]
          · dsimp only
            rw [if_pos rfl]
        rw [e1]
        by_cases he : i = r
        · subst he
          show _ ^^^ gm (A i p) (gm c _) = 0
          rw [← gm_assoc, gm_ginv _ hap, one_gm, uxx]
        · have h2 := hs i (by omega)
          unfold mv at h2
          rw [← h2]
          have : (fun k => gm (A i (skip p k) ^^^ gm (gm (A i p) c) (A r (skip p k))) (v' k)) = (fun k => gm (A i (skip p k)) (v' k) ^^^ gm (gm (A i p) c) (gm (A r (skip p k)) (v' k))) := by
            funext k
            rw [xor_gm, gm_assoc]
          rw [this, xs_xor]
          congr 1
          rw [← gm_xs, gm_assoc]

/-- M v = 0 for v = 0 alone. -/
def Inj (n : Nat) (M : Mx) : Prop := ∀ v : Nat → UInt8, (∀ i, i < n → mv n M v i = 0) → ∀ j, j < n → v j = 0
/-- M is right times a thinner one, k wide. -/
def Fac (r c k : Nat) (M : Mx) : Prop := ∃ C R : Mx, Alike r c M (mm k C R)

theorem no_fac_one {n k : Nat} (h : k < n) : ¬ Fac n n k one := by
  rintro ⟨C, R, hCR⟩
  obtain ⟨v, ⟨j, hj, hv⟩, hs⟩ := more_unknowns k n R h
  apply hv
  have e1 : mv n one v j = mv n (mm k C R) v j := mv_congr (fun l hl => hCR j hj l hl) (fun _ _ => rfl)
  rw [mv_one n v j hj, mv_mm] at e1
  rw [e1]
  exact mv_none C hs j

/-- Every column is met. -/
theorem inj_right {n : Nat} {M : Mx} (h : Inj n M) : ∃ C : Mx, Alike n n (mm n M C) one := by
  have each : ∀ q, ∃ u : Nat → UInt8, ∀ i, i < n → mv n M u i = one i q := by
    intro q
    obtain ⟨v, ⟨j, hj, hv⟩, hs⟩ := more_unknowns n (n + 1) (fun i j => if j < n then M i j else one i q) (by omega)
    have e1 : ∀ i, i < n → mv n M v i ^^^ gm (one i q) (v n) = 0 := by
      intro i hi
      have h1 := hs i hi
      unfold mv at h1 ⊢
      rw [xs] at h1
      dsimp only at h1
      rw [if_neg (by omega)] at h1
      rw [← h1]
      congr 1
      exact xs_congr n (fun k hk => by rw [if_pos hk])
    have ht : v n ≠ 0 := by
      intro ht
      have hz := h v (fun i hi => by
        have := e1 i hi
        rwa [ht, gm_zero, ux0] at this)
      by_cases hjn : j = n
      · subst hjn
        exact hv ht
      · exact hv (hz j (by omega))
    refine ⟨fun k => gm (v k) (ginv (v n)), fun i hi => ?_⟩
    have h2 := ux_eq (e1 i hi)
    have h3 : mv n M (fun k => gm (v k) (ginv (v n))) i = gm (mv n M v i) (ginv (v n)) := by
      unfold mv
      rw [xs_gm]
      exact xs_congr n (fun k _ => (gm_assoc _ _ _).symm)
    rw [h3, h2, gm_assoc, gm_ginv _ ht, gm_one]
  exact ⟨fun k q => (each q).choose k, fun i hi q _ => (each q).choose_spec i hi⟩
theorem inj_of_left {n : Nat} {A M : Mx} (h : Alike n n (mm n A M) one) : Inj n M := fun v hv j hj => by
  have e1 : mv n one v j = mv n (mm n A M) v j := mv_congr (fun l hl => (h j hj l hl).symm) (fun _ _ => rfl)
  rw [mv_one n v j hj, mv_mm] at e1
  rw [e1]
  exact mv_none A hv j
/-- An inverse from one side is one from the other. -/
theorem inverse_both {n : Nat} {A B : Mx} (h : Alike n n (mm n A B) one) : Alike n n (mm n B A) one := by
  obtain ⟨C, hC⟩ := inj_right (inj_of_left h)
  have e : Alike n n A C := fun i hi j hj => by
    have h1 := congrFun (congrFun (mm_assoc n n A B C) i) j
    have h2 : mm n (mm n A B) C i j = C i j := by
      rw [mm_congr (r := n) (c := n) h (fun _ _ _ _ => rfl) i hi j hj]
      exact mm_one_left n C i j hi
    have h3 : mm n A (mm n B C) i j = A i j := by
      rw [mm_congr (r := n) (c := n) (fun _ _ _ _ => rfl) hC i hi j hj]
      exact mm_one_right n A i j hj
    rw [← h3, ← h2, h1]
  intro i hi j hj
  rw [mm_congr (r := n) (c := n) (B' := C) (fun _ _ _ _ => rfl) e i hi j hj]
  exact hC i hi j hj
/-- A matrix has one inverse at most. -/
theorem inverse_one {n : Nat} {M A B : Mx} (hA : Alike n n (mm n A M) one) (hB : Alike n n (mm n M B) one) : Alike n n A B := fun i hi j hj => by
  have h1 := congrFun (congrFun (mm_assoc n n A M B) i) j
  have h2 : mm n (mm n A M) B i j = B i j := by
    rw [mm_congr (r := n) (c := n) hA (fun _ _ _ _ => rfl) i hi j hj]
    exact mm_one_left n B i j hi
  have h3 : mm n A (mm n M B) i j = A i j := by
    rw [mm_congr (r := n) (c := n) (fun _ _ _ _ => rfl) hB i hi j hj]
    exact mm_one_right n A i j hj
  rw [← h3, ← h2, h1]

/-! Rank: the least width of a factor. -/
structure Rk (r c : Nat) (M : Mx) (k : Nat) : Prop where
  fac : Fac r c k M
  least : ∀ k', k' < k → ¬ Fac r c k' M
theorem Rk.unique {r c : Nat} {M : Mx} {k k' : Nat} (h : Rk r c M k) (h' : Rk r c M k') : k = k' := by
  rcases Nat.lt_trichotomy k k' with h1 | h1 | h1
  · exact absurd h.fac (h'.least _ h1)
  · exact h1
  · exact absurd h'.fac (h.least _ h1)
theorem Fac.turned {r c k : Nat} {M : Mx} (h : Fac r c k M) : Fac c r k (fun i j => M j i) := by
  obtain ⟨C, R, hCR⟩ := h
  refine ⟨fun i j => R j i, fun i j => C j i, fun i hi j hj => ?_⟩
  show M j i = _
  rw [hCR j hj i hi]
  exact xs_congr k (fun l _ => gm_comm _ _)
theorem Rk.turned {r c : Nat} {M : Mx} {k : Nat} (h : Rk r c M k) : Rk c r (fun i j => M j i) k := ⟨h.fac.turned, fun k' hk hf => h.least k' hk hf.turned⟩
theorem fac_rows (r c : Nat) (M : Mx) : Fac r c r M := ⟨one, M, fun i hi j _ => (mm_one_left r M i j hi).symm⟩
theorem fac_cols (r c : Nat) (M : Mx) : Fac r c c M := ⟨M, one, fun i _ j hj => (mm_one_right c M i j hj).symm⟩
theorem Rk.le {r c : Nat} {M : Mx} {k : Nat} (h : Rk r c M k) : k ≤ r ∧ k ≤ c :=
  ⟨Nat.le_of_not_lt fun hh => h.least _ hh (fac_rows r c M), Nat.le_of_not_lt fun hh => h.least _ hh (fac_cols r c M)⟩
theorem Fac.congr {r c k : Nat} {M M' : Mx} (h : Fac r c k M) (e : Alike r c M M') : Fac r c k M' := by
  obtain ⟨C, R, hCR⟩ := h
  exact ⟨C, R, fun i hi j hj => by rw [← e i hi j hj, hCR i hi j hj]⟩
theorem Fac.left {r c k m : Nat} {M D : Mx} (h : Fac m c k M) : Fac r c k (mm m D M) := by
  obtain ⟨C, R, hCR⟩ := h
  refine ⟨mm m D C, R, fun i hi j hj => ?_⟩
  rw [mm_congr (r := r) (c := c) (fun _ _ _ _ => rfl) hCR i hi j hj, mm_assoc]
/-- A square matrix with an inverse has full rank. -/
theorem rk_of_inverse {n : Nat} {A M : Mx} (h : Alike n n (mm n A M) one) : Rk n n M n :=
  ⟨fac_rows n n M, fun _ hk hf => no_fac_one hk ((hf.left (r := n) (D := A)).congr h)⟩
theorem inj_of_rk {n : Nat} {M : Mx} (h : ∀ k, k < n → ¬ Fac n n k M) : Inj n M := fun v hv p hp => Decidable.byContradiction fun hne => by
  obtain ⟨m, rfl⟩ : ∃ m, n = m + 1 := ⟨n - 1, by omega⟩
  refine h m (by omega) ⟨fun i j => M i (skip p j), fun j k => if k = p then gm (v (skip p j)) (ginv (v p)) else if j = unskip p k then 1 else 0, fun i hi k hk => ?_⟩
  unfold mm
  by_cases hkp : k = p
  · subst hkp
    have h1 := hv i hi
    unfold mv at h1
    rw [xs_skip _ k m (by omega)] at h1
    have h2 := ux_eq h1
    have h3 : xs m (fun j => gm (M i (skip k j)) (if k = k then gm (v (skip k j)) (ginv (v k)) else if j = unskip k k then 1 else 0)) = gm (xs m (fun j => gm (M i (skip k j)) (v (skip k j)))) (ginv (v k)) := by
      rw [xs_gm]
      apply xs_congr
      intro j _
      rw [if_pos rfl, gm_assoc]
    rw [h3, h2, gm_assoc, gm_ginv _ hne, gm_one]
  · rw [xs_one (unskip p k) m (unskip_lt hkp hk hp) (fun j _ hj => by dsimp only; rw [if_neg hkp, if_neg hj, gm_zero])]
    dsimp only
    rw [if_neg hkp, if_pos rfl, gm_one, skip_unskip hkp]
theorem inverse_of_rk {n : Nat} {M : Mx} (h : Rk n n M n) : ∃ C : Mx, Alike n n (mm n M C) one ∧ Alike n n (mm n C M) one := by
  obtain ⟨C, hC⟩ := inj_right (inj_of_rk h.least)
  exact ⟨C, hC, inverse_both hC⟩

/-- Rows each of which has a number of its own, that those behind it have not: no thinner factor. -/
theorem echelon_least {k c : Nat} {K : Mx} {ld : Nat → Nat} (hc : ∀ a, a < k → ld a < c) (hd : ∀ a, a < k → K a (ld a) ≠ 0) (hz : ∀ a b, a < k → b < a → K a (ld b) = 0) (k' : Nat) (h : k' < k) : ¬ Fac k c k' K := by
  rintro ⟨C, R, hCR⟩
  obtain ⟨v, ⟨j, hj, hv⟩, hs⟩ := more_unknowns k' k (fun i b => R i (ld b)) h
  have hT : ∀ a, a < k → mv k (fun a b => K a (ld b)) v a = 0 := by
    intro a ha
    have e1 : mv k (fun a b => K a (ld b)) v a = mv k (mm k' C (fun i b => R i (ld b))) v a := mv_congr (fun b hb => hCR a ha (ld b) (hc b hb)) (fun _ _ => rfl)
    rw [e1, mv_mm]
    exact mv_none C hs a
  have back : ∀ m, m ≤ k → ∀ a, k - m ≤ a → a < k → v a = 0 := by
    intro m
    induction m with
    | zero => exact fun _ a h1 h2 => absurd h1 (by omega)
    | succ m ih =>
      intro hm a h1 h2
      by_cases ha : k - m ≤ a
      · exact ih (by omega) a ha h2
      · have e1 := hT a h2
        unfold mv at e1
        dsimp only at e1
        rw [xs_one a k h2 (fun b hb hne => by
          rcases Nat.lt_or_ge b a with h3 | h3
          · rw [hz a b h2 h3, zero_gm]
          · rw [ih (by omega) b (by omega) hb, gm_zero])] at e1
        exact (gm_eq_zero e1).resolve_left (hd a h2)
  exact hv (back k (Nat.le_refl _) j (by omega) hj)
end Go.Proofs.Ytccnoflgbopjlaa

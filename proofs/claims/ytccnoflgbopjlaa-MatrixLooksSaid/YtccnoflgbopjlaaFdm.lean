/-
  Plain mathematics of the field's tables: powers of 2 and their exponents, the rows as they stand behind so many rounds, what products, powers and inverses are by them. No program, no condition.
-/
import Derived.Test.YtccnoflgbopjlaaGf
import Derived.Test.YtccnoflgbopjlaaKit
namespace Go.Proofs.Ytccnoflgbopjlaa

/-- The powers of 2. -/
def pwL : List UInt8 := [1, 2, 4, 8, 16, 32, 64, 128, 29, 58, 116, 232, 205, 135, 19, 38, 76, 152, 45, 90, 180, 117, 234, 201, 143, 3, 6, 12, 24, 48, 96, 192, 157, 39, 78, 156, 37, 74, 148, 53, 106, 212, 181, 119, 238, 193, 159, 35, 70, 140, 5, 10, 20, 40, 80, 160, 93, 186, 105, 210, 185, 111, 222, 161, 95, 190, 97, 194, 153, 47, 94, 188, 101, 202, 137, 15, 30, 60, 120, 240, 253, 231, 211, 187, 107, 214, 177, 127, 254, 225, 223, 163, 91, 182, 113, 226, 217, 175, 67, 134, 17, 34, 68, 136, 13, 26, 52, 104, 208, 189, 103, 206, 129, 31, 62, 124, 248, 237, 199, 147, 59, 118, 236, 197, 151, 51, 102, 204, 133, 23, 46, 92, 184, 109, 218, 169, 79, 158, 33, 66, 132, 21, 42, 84, 168, 77, 154, 41, 82, 164, 85, 170, 73, 146, 57, 114, 228, 213, 183, 115, 230, 209, 191, 99, 198, 145, 63, 126, 252, 229, 215, 179, 123, 246, 241, 255, 227, 219, 171, 75, 150, 49, 98, 196, 149, 55, 110, 220, 165, 87, 174, 65, 130, 25, 50, 100, 200, 141, 7, 14, 28, 56, 112, 224, 221, 167, 83, 166, 81, 162, 89, 178, 121, 242, 249, 239, 195, 155, 43, 86, 172, 69, 138, 9, 18, 36, 72, 144, 61, 122, 244, 245, 247, 243, 251, 235, 203, 139, 11, 22, 44, 88, 176, 125, 250, 233, 207, 131, 27, 54, 108, 216, 173, 71, 142]
/-- Which power a byte is. -/
def exL : List UInt8 := [0, 0, 1, 25, 2, 50, 26, 198, 3, 223, 51, 238, 27, 104, 199, 75, 4, 100, 224, 14, 52, 141, 239, 129, 28, 193, 105, 248, 200, 8, 76, 113, 5, 138, 101, 47, 225, 36, 15, 33, 53, 147, 142, 218, 240, 18, 130, 69, 29, 181, 194, 125, 106, 39, 249, 185, 201, 154, 9, 120, 77, 228, 114, 166, 6, 191, 139, 98, 102, 221, 48, 253, 226, 152, 37, 179, 16, 145, 34, 136, 54, 208, 148, 206, 143, 150, 219, 189, 241, 210, 19, 92, 131, 56, 70, 64, 30, 66, 182, 163, 195, 72, 126, 110, 107, 58, 40, 84, 250, 133, 186, 61, 202, 94, 155, 159, 10, 21, 121, 43, 78, 212, 229, 172, 115, 243, 167, 87, 7, 112, 192, 247, 140, 128, 99, 13, 103, 74, 222, 237, 49, 197, 254, 24, 227, 165, 153, 119, 38, 184, 180, 124, 17, 68, 146, 217, 35, 32, 137, 46, 55, 63, 209, 91, 149, 188, 207, 205, 144, 135, 151, 178, 220, 252, 190, 97, 242, 86, 211, 171, 20, 42, 93, 158, 132, 60, 57, 83, 71, 109, 65, 162, 31, 45, 67, 216, 183, 123, 164, 118, 196, 23, 73, 236, 127, 12, 111, 246, 108, 161, 59, 82, 41, 157, 85, 170, 251, 96, 134, 177, 187, 204, 62, 90, 203, 89, 95, 176, 156, 169, 160, 81, 11, 245, 22, 235, 122, 117, 44, 215, 79, 174, 213, 233, 230, 231, 173, 232, 116, 214, 244, 234, 168, 80, 88, 175]
def pwF (i : Nat) : UInt8 := pwL.getD i 0
def exF (v : Nat) : UInt8 := exL.getD v 0
theorem pw_zero : pwF 0 = 1 := rfl
theorem pw_succ : ∀ i, i < 254 → pwF (i + 1) = gm (pwF i) 2 := by decide +kernel
theorem pw_ex : ∀ v, v < 256 → v ≠ 0 → (pwF (exF v).toNat).toNat = v := by decide +kernel
theorem ex_pw : ∀ i, i < 255 → (exF (pwF i).toNat).toNat = i := by decide +kernel
theorem ex_lt : ∀ v, v < 256 → (exF v).toNat < 255 := by decide +kernel
theorem pw_ne : ∀ i, i < 255 → (pwF i).toNat ≠ 0 := by decide +kernel
theorem pw_gp : ∀ i, i < 255 → pwF i = gp 2 i
  | 0, _ => rfl
  | i + 1, h => by rw [pw_succ i (by omega), pw_gp i (by omega), gp]
theorem gp_ex (u : UInt8) (h : u ≠ 0) : gp 2 (exF u.toNat).toNat = u := by
  have h0 : u.toNat ≠ 0 := fun e => h (UInt8.toNat_inj.1 e)
  rw [← pw_gp _ (ex_lt _ u.toNat_lt)]
  exact UInt8.toNat_inj.1 (pw_ex _ u.toNat_lt h0)
theorem two_ne : (2 : UInt8) ≠ 0 := by decide
/-- The product, by the tables. -/
theorem gm_tab (u v : UInt8) (hu : u ≠ 0) (hv : v ≠ 0) : gm u v = pwF (((exF u.toNat).toNat + (exF v.toNat).toNat) % 255) := by
  rw [pw_gp _ (Nat.mod_lt _ (by omega)), gp_mod two_ne, gp_add, gp_ex u hu, gp_ex v hv]
theorem gp_mul (u : UInt8) (a : Nat) : ∀ b, gp u (a * b) = gp (gp u a) b
  | 0 => rfl
  | b + 1 => by rw [Nat.mul_succ, gp_add, gp_mul u a b, gp]
/-- Powers, by the tables. -/
theorem gp_tab (u : UInt8) (k : Nat) (hu : u ≠ 0) : gp u k = pwF ((exF u.toNat).toNat * k % 255) := by
  rw [pw_gp _ (Nat.mod_lt _ (by omega)), gp_mod two_ne, gp_mul, gp_ex u hu]

/-! The rows behind n rounds. -/
def pwN (n i : Nat) : UInt8 := if i < n then pwF i else 0
def exN (n v : Nat) : UInt8 := if v ≠ 0 ∧ (exF v).toNat < n then exF v else 0
theorem pwN_zero (i : Nat) : pwN 0 i = 0 := by simp [pwN]
theorem exN_zero (v : Nat) : exN 0 v = 0 := by simp [exN]
theorem pwN_succ (n i : Nat) : pwN (n + 1) i = if i = n then pwF n else pwN n i := by
  unfold pwN
  by_cases h : i = n
  · subst h; simp
  · have : (i < n + 1) = (i < n) := by simp; omega
    simp only [this, h, if_false]
theorem exN_succ (n v : Nat) (hn : n < 255) (hv : v < 256) : exN (n + 1) v = if v = (pwF n).toNat then UInt8.ofNat n else exN n v := by
  unfold exN
  by_cases h : v = (pwF n).toNat
  · subst h
    have h1 := ex_pw n hn
    rw [if_pos rfl, if_pos ⟨pw_ne n hn, by omega⟩]
    apply UInt8.toNat_inj.1
    rw [h1, UInt8.toNat_ofNat']
    omega
  · rw [if_neg h]
    have : (v ≠ 0 ∧ (exF v).toNat < n + 1) = (v ≠ 0 ∧ (exF v).toNat < n) := by
      apply propext
      constructor
      · rintro ⟨h0, h1⟩
        refine ⟨h0, ?_⟩
        rcases Nat.lt_or_ge (exF v).toNat n with h2 | h2
        · exact h2
        · exfalso
          have h3 : (exF v).toNat = n := by omega
          have h4 := pw_ex v hv h0
          rw [h3] at h4
          exact h h4.symm
      · rintro ⟨h0, h1⟩
        exact ⟨h0, by omega⟩
    simp only [this]
theorem pwN_all (i : Nat) (h : i < 255) : pwN 255 i = pwF i := by simp [pwN, h]
theorem exN_all (v : Nat) (h : v < 256) : exN 255 v = exF v := by
  unfold exN
  by_cases h0 : v = 0
  · subst h0
    rfl
  · rw [if_pos ⟨h0, ex_lt v h⟩]
theorem dbl : ∀ i, i < 255 → ((pwF i).toNat * 2 < 256 → (pwF ((i + 1) % 255)).toNat = (pwF i).toNat * 2) ∧ (256 ≤ (pwF i).toNat * 2 → (pwF ((i + 1) % 255)).toNat = ((pwF i).toNat * 2) ^^^ 285) := by decide +kernel

/-! A tables' block. -/
def tbAt (d m : Int) (f g : Nat → UInt8) (k : Nat) : Value :=
  if k = 0 then .int .u32 d else if k = 1 then .int .i32 m else if k = 2 then .int .u32 0 else if k < 258 then bv (f (k - 3)) else bv (g (k - 258))
def rowOf (N : Nat) (c : Nat → Value) : Array Value := ((List.range N).map c).toArray
theorem rowOf_size (N : Nat) (c : Nat → Value) : (rowOf N c).size = N := by simp [rowOf]
theorem rowOf_get (N : Nat) (c : Nat → Value) (k : Nat) (h : k < N) : (rowOf N c)[k]? = some (c k) := by simp [rowOf, h]
theorem rowOf_congr {N : Nat} {c c' : Nat → Value} (h : ∀ k, k < N → c k = c' k) : rowOf N c = rowOf N c' := by
  unfold rowOf
  congr 1
  apply List.map_congr_left
  intro k hk
  exact h k (by simpa using hk)
theorem rowOf_set {N : Nat} {c c' : Nat → Value} (j : Nat) (v : Value) (hv : v = c' j) (ho : ∀ k, k < N → k ≠ j → c k = c' k) : (rowOf N c).setIfInBounds j v = rowOf N c' := by
  apply Array.ext
  · simp [rowOf]
  · intro i h1 h2
    rw [rowOf_size] at h2
    by_cases hk : j = i
    · subst hk
      simp [rowOf, hv]
    · simp [rowOf, hk]
      exact ho i h2 (fun e => hk e.symm)
def tb (d m : Int) (f g : Nat → UInt8) : Array Value := rowOf 514 (tbAt d m f g)
theorem tb_size (d m : Int) (f g : Nat → UInt8) : (tb d m f g).size = 514 := rowOf_size _ _
theorem tb_get (d m : Int) (f g : Nat → UInt8) (k : Nat) (h : k < 514) : (tb d m f g)[k]? = some (tbAt d m f g k) := rowOf_get _ _ k h
theorem tb_congr {d m : Int} {f g f' g' : Nat → UInt8} (hf : ∀ i, i < 255 → f i = f' i) (hg : ∀ v, v < 256 → g v = g' v) : tb d m f g = tb d m f' g' := by
  refine rowOf_congr fun k hk => ?_
  unfold tbAt
  by_cases h0 : k = 0
  · simp [h0]
  by_cases h1 : k = 1
  · simp [h1]
  by_cases h2 : k = 2
  · simp [h2]
  by_cases h3 : k < 258
  · simp only [h0, h1, h2, h3, if_true, if_false, hf (k - 3) (by omega)]
  · simp only [h0, h1, h2, h3, if_false, hg (k - 258) (by omega)]
theorem tb_set (d m d' m' : Int) (f g f' g' : Nat → UInt8) (j : Nat) (v : Value) (hv : v = tbAt d' m' f' g' j) (ho : ∀ k, k < 514 → k ≠ j → tbAt d m f g k = tbAt d' m' f' g' k) :
    (tb d m f g).setIfInBounds j v = tb d' m' f' g' := rowOf_set j v hv ho
theorem tb_done (d m d' : Int) (f g : Nat → UInt8) : (tb d m f g).setIfInBounds 0 (.int .u32 d') = tb d' m f g :=
  tb_set _ _ _ _ _ _ _ _ 0 _ rfl fun k _ h => by simp [tbAt, h]
theorem tb_lock (d m m' : Int) (f g : Nat → UInt8) : (tb d m f g).setIfInBounds 1 (.int .i32 m') = tb d m' f g :=
  tb_set _ _ _ _ _ _ _ _ 1 _ rfl fun k _ h => by simp [tbAt, h]
theorem tb_pw (d m : Int) (f g : Nat → UInt8) (i : Nat) (x : UInt8) (h : i < 255) : (tb d m f g).setIfInBounds (3 + i) (bv x) = tb d m (fun j => if j = i then x else f j) g :=
  tb_set _ _ _ _ _ _ _ _ (3 + i) _ (by
    have h0 : ¬ 3 + i = 0 := by omega
    have h1 : ¬ 3 + i = 1 := by omega
    have h2 : ¬ 3 + i = 2 := by omega
    have h3 : 3 + i < 258 := by omega
    have h4 : 3 + i - 3 = i := by omega
    simp only [tbAt, h0, h1, h2, h3, h4, if_true, if_false]) fun k _ hk => by
      unfold tbAt
      by_cases h0 : k = 0
      · simp [h0]
      by_cases h1 : k = 1
      · simp [h1]
      by_cases h2 : k = 2
      · simp [h2]
      have h4 : ¬ k - 3 = i := by omega
      simp only [h0, h1, h2, h4, if_false]
theorem tb_ex (d m : Int) (f g : Nat → UInt8) (v : Nat) (x : UInt8) (h : v < 256) : (tb d m f g).setIfInBounds (258 + v) (bv x) = tb d m f (fun j => if j = v then x else g j) :=
  tb_set _ _ _ _ _ _ _ _ (258 + v) _ (by
    have h0 : ¬ 258 + v = 0 := by omega
    have h1 : ¬ 258 + v = 1 := by omega
    have h2 : ¬ 258 + v = 2 := by omega
    have h3 : ¬ 258 + v < 258 := by omega
    have h4 : 258 + v - 258 = v := by omega
    simp only [tbAt, h0, h1, h2, h3, h4, if_true, if_false]) fun k _ hk => by
      unfold tbAt
      by_cases h3 : k < 258
      · simp only [h3, if_true]
      · have h4 : ¬ k - 258 = v := by omega
        simp only [h3, h4, if_false]
theorem tb_at_pw (d m : Int) (f g : Nat → UInt8) (i : Nat) (h : i < 255) : (tb d m f g)[3 + i]? = some (bv (f i)) := by
  rw [tb_get _ _ _ _ _ (by omega)]
  have h0 : ¬ 3 + i = 0 := by omega
  have h1 : ¬ 3 + i = 1 := by omega
  have h2 : ¬ 3 + i = 2 := by omega
  have h3 : 3 + i < 258 := by omega
  have h4 : 3 + i - 3 = i := by omega
  simp only [tbAt, h0, h1, h2, h3, h4, if_true, if_false]
theorem tb_at_ex (d m : Int) (f g : Nat → UInt8) (v : Nat) (h : v < 256) : (tb d m f g)[258 + v]? = some (bv (g v)) := by
  rw [tb_get _ _ _ _ _ (by omega)]
  have h0 : ¬ 258 + v = 0 := by omega
  have h1 : ¬ 258 + v = 1 := by omega
  have h2 : ¬ 258 + v = 2 := by omega
  have h3 : ¬ 258 + v < 258 := by omega
  have h4 : 258 + v - 258 = v := by omega
  simp only [tbAt, h0, h1, h2, h3, h4, if_false]
end Go.Proofs.Ytccnoflgbopjlaa

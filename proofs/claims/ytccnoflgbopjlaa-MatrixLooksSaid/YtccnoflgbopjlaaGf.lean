/-
  Plain mathematics of the field of 256 bytes: the product modulo 11d, its laws, inverses, powers. No program, no condition.
-/
namespace Go.Proofs.Ytccnoflgbopjlaa

abbrev B8 := BitVec 8

/-- What goes over exclusive or. -/
def Lb (f : B8 → B8) : Prop := ∀ a b, f (a ^^^ b) = f a ^^^ f b
theorem Lb.zero {f : B8 → B8} (hf : Lb f) : f 0 = 0 := by
  have h := hf 0 0
  rw [BitVec.xor_self, BitVec.xor_self] at h
  exact h
theorem bx0 (a : B8) : a ^^^ 0 = a := BitVec.xor_zero
theorem bzx (a : B8) : 0 ^^^ a = a := BitVec.zero_xor
theorem bxor4 (a b c d : B8) : (a ^^^ b) ^^^ (c ^^^ d) = (a ^^^ c) ^^^ (b ^^^ d) := by
  rw [BitVec.xor_assoc, BitVec.xor_assoc, ← BitVec.xor_assoc b c d, BitVec.xor_comm b c, BitVec.xor_assoc c b d]

/-- The sum of m's numbers at the bits of w, the first k of them. -/
def sel (m : Nat → B8) : Nat → B8 → B8
  | 0, _ => 0
  | k + 1, w => sel m k w ^^^ (if w.getLsbD k then m k else 0)
theorem sel_congr {m m' : Nat → B8} (w : B8) : ∀ k, (∀ i, i < k → m i = m' i) → sel m k w = sel m' k w
  | 0, _ => rfl
  | k + 1, h => by rw [sel, sel, sel_congr w k (fun i hi => h i (by omega)), h k (by omega)]
theorem sel_map {f : B8 → B8} (hf : Lb f) (m : Nat → B8) (w : B8) : ∀ k, f (sel m k w) = sel (fun i => f (m i)) k w
  | 0 => hf.zero
  | k + 1 => by
    rw [sel, sel, hf, sel_map hf m w k]
    congr 1
    split
    · rfl
    · exact hf.zero
theorem sel_lin (m : Nat → B8) : ∀ k, Lb (sel m k)
  | 0 => fun a b => by simp [sel]
  | k + 1 => fun a b => by
    rw [sel, sel, sel, sel_lin m k a b, bxor4, BitVec.getLsbD_xor]
    congr 1
    cases a.getLsbD k <;> cases b.getLsbD k <;> simp
theorem sel_add (m m' : Nat → B8) (w : B8) : ∀ k, sel (fun i => m i ^^^ m' i) k w = sel m k w ^^^ sel m' k w
  | 0 => by simp [sel]
  | k + 1 => by
    rw [sel, sel, sel, sel_add m m' w k, bxor4]
    congr 1
    split
    · rfl
    · rfl
def bu (i : Nat) : B8 := (1 : B8) <<< i
theorem bu_bit (i j : Nat) : (bu i).getLsbD j = (decide (j < 8) && decide (j = i)) := by
  unfold bu
  rw [BitVec.getLsbD_shiftLeft]
  simp only [BitVec.ofNat_eq_ofNat, BitVec.getLsbD_one]
  by_cases h : j < 8 <;> by_cases h2 : j < i <;> by_cases h3 : j = i <;> simp_all <;> omega
theorem sel_bu_bit (w : B8) (j : Nat) : ∀ k, k ≤ 8 → (sel bu k w).getLsbD j = (decide (j < k) && w.getLsbD j)
  | 0, _ => by simp [sel]
  | k + 1, hk => by
    rw [sel, BitVec.getLsbD_xor, sel_bu_bit w j k (by omega)]
    by_cases hw : w.getLsbD k
    · rw [if_pos hw, bu_bit]
      by_cases h1 : j = k
      · subst h1
        simp [hw]
        omega
      · have : decide (j < k + 1) = decide (j < k) := by simp; omega
        simp [h1, this]
    · rw [if_neg hw]
      by_cases h1 : j = k
      · subst h1
        simp [hw]
      · have : decide (j < k + 1) = decide (j < k) := by simp; omega
        simp [this]
theorem sel_bu (w : B8) : sel bu 8 w = w := by
  apply BitVec.eq_of_getLsbD_eq
  intro i hi
  rw [sel_bu_bit w i 8 (Nat.le_refl _)]
  simp [hi]
theorem lb_ext {f g : B8 → B8} (hf : Lb f) (hg : Lb g) (h : ∀ i, i < 8 → f (bu i) = g (bu i)) (w : B8) : f w = g w := by
  rw [← sel_bu w, sel_map hf, sel_map hg]
  exact sel_congr _ 8 h

/-- Times x. -/
def xt (a : B8) : B8 := (a <<< 1) ^^^ (if a.getLsbD 7 then 0x1d#8 else 0)
theorem xt_lin : Lb xt := fun a b => by
  unfold xt
  rw [BitVec.shiftLeft_xor_distrib, bxor4, BitVec.getLsbD_xor]
  congr 1
  cases a.getLsbD 7 <;> cases b.getLsbD 7 <;> simp
/-- Times x to the k. -/
def xk (a : B8) : Nat → B8
  | 0 => a
  | k + 1 => xt (xk a k)
theorem xk_lin : ∀ k, Lb (fun a => xk a k)
  | 0 => fun _ _ => rfl
  | k + 1 => fun a b => by
    show xt (xk (a ^^^ b) k) = xt (xk a k) ^^^ xt (xk b k)
    rw [← xt_lin]
    congr 1
    exact xk_lin k a b
/-- The product. -/
def bm (a b : B8) : B8 := sel (xk a) 8 b
theorem bm_right (a : B8) : Lb (bm a) := sel_lin (xk a) 8
theorem bm_left (b : B8) : Lb (fun a => bm a b) := fun a a' => by
  show sel (xk (a ^^^ a')) 8 b = sel (xk a) 8 b ^^^ sel (xk a') 8 b
  rw [← sel_add]
  exact sel_congr b 8 (fun i _ => xk_lin i a a')
theorem bm_comm (a b : B8) : bm a b = bm b a := by
  refine lb_ext (f := fun a => bm a b) (g := fun a => bm b a) (bm_left b) (bm_right b) (fun i hi => ?_) a
  refine lb_ext (f := fun b => bm (bu i) b) (g := fun b => bm b (bu i)) (bm_right _) (bm_left _) (fun j hj => ?_) b
  exact (by decide +kernel : ∀ i, i < 8 → ∀ j, j < 8 → bm (bu i) (bu j) = bm (bu j) (bu i)) i hi j hj
theorem Lb.comp {f g : B8 → B8} (hf : Lb f) (hg : Lb g) : Lb fun x => f (g x) := fun a b => by show f (g (a ^^^ b)) = f (g a) ^^^ f (g b); rw [hg, hf]
theorem bm_assoc (a b c : B8) : bm (bm a b) c = bm a (bm b c) := by
  refine lb_ext (f := fun a => bm (bm a b) c) (g := fun a => bm a (bm b c)) ((bm_left c).comp (bm_left b)) (bm_left _) (fun i hi => ?_) a
  refine lb_ext (f := fun b => bm (bm (bu i) b) c) (g := fun b => bm (bu i) (bm b c)) ((bm_left c).comp (bm_right _)) ((bm_right _).comp (bm_left c)) (fun j hj => ?_) b
  refine lb_ext (f := fun c => bm (bm (bu i) (bu j)) c) (g := fun c => bm (bu i) (bm (bu j) c)) (bm_right _) ((bm_right _).comp (bm_right _)) (fun k hk => ?_) c
  exact (by decide +kernel : ∀ i, i < 8 → ∀ j, j < 8 → ∀ k, k < 8 → bm (bm (bu i) (bu j)) (bu k) = bm (bu i) (bm (bu j) (bu k))) i hi j hj k hk
theorem bm_one (a : B8) : bm a 1 = a := lb_ext (f := fun a => bm a 1) (g := fun a => a) (bm_left 1) (fun _ _ => rfl) (by decide +kernel) a
theorem bm_zero (a : B8) : bm a 0 = 0 := (bm_right a).zero

/-! The same of bytes. -/
def gm (u v : UInt8) : UInt8 := ⟨bm u.toBitVec v.toBitVec⟩
theorem u8_ext {u v : UInt8} (h : u.toBitVec = v.toBitVec) : u = v := UInt8.toBitVec_inj.1 h
theorem gm_bits (u v : UInt8) : (gm u v).toBitVec = bm u.toBitVec v.toBitVec := rfl
theorem gm_comm (u v : UInt8) : gm u v = gm v u := u8_ext (bm_comm _ _)
theorem gm_assoc (u v w : UInt8) : gm (gm u v) w = gm u (gm v w) := u8_ext (bm_assoc _ _ _)
theorem gm_xor (u v w : UInt8) : gm u (v ^^^ w) = gm u v ^^^ gm u w := u8_ext (by rw [gm_bits, UInt8.toBitVec_xor, UInt8.toBitVec_xor, bm_right]; rfl)
theorem xor_gm (u v w : UInt8) : gm (u ^^^ v) w = gm u w ^^^ gm v w := by rw [gm_comm, gm_xor, gm_comm w u, gm_comm w v]
theorem gm_one (u : UInt8) : gm u 1 = u := u8_ext (bm_one _)
theorem one_gm (u : UInt8) : gm 1 u = u := by rw [gm_comm, gm_one]
theorem gm_zero (u : UInt8) : gm u 0 = 0 := u8_ext (bm_zero _)
theorem zero_gm (u : UInt8) : gm 0 u = 0 := by rw [gm_comm, gm_zero]

/-- Powers. -/
def gp (u : UInt8) : Nat → UInt8
  | 0 => 1
  | k + 1 => gm (gp u k) u
theorem gp_add (u : UInt8) (a : Nat) : ∀ b, gp u (a + b) = gm (gp u a) (gp u b)
  | 0 => (gm_one _).symm
  | b + 1 => by rw [← Nat.add_assoc, gp, gp_add u a b, gp, gm_assoc]
theorem gp_one (u : UInt8) : gp u 1 = u := one_gm u
theorem gp_two (u : UInt8) (a : Nat) : gp u (a + a) = gm (gp u a) (gp u a) := gp_add u a a
/-- The 254th power, by squares. -/
def g254 (u : UInt8) : UInt8 :=
  let a := gm u u
  let b := gm a a
  let c := gm b b
  let d := gm c c
  let e := gm d d
  let f := gm e e
  let g := gm f f
  gm a (gm b (gm c (gm d (gm e (gm f g)))))
theorem g254_gp (u : UInt8) : g254 u = gp u 254 := by
  have h2 := gp_two u 1
  have h4 := gp_two u 2
  have h8 := gp_two u 4
  have h16 := gp_two u 8
  have h32 := gp_two u 16
  have h64 := gp_two u 32
  have h128 := gp_two u 64
  rw [gp_one] at h2
  simp only [Nat.reduceAdd] at h2 h4 h8 h16 h32 h64 h128
  unfold g254
  simp only
  rw [← h2, ← h4, ← h8, ← h16, ← h32, ← h64, ← h128, ← gp_add, ← gp_add, ← gp_add, ← gp_add, ← gp_add, ← gp_add]
theorem all_bytes {p : UInt8 → Bool} (h : (List.range 256).all (fun i => p (UInt8.ofNat i)) = true) (u : UInt8) : p u = true := by
  have := List.all_eq_true.1 h u.toNat (by simpa using u.toNat_lt)
  rwa [UInt8.ofNat_toNat] at this
theorem g254_inv (u : UInt8) (h : u ≠ 0) : gm u (g254 u) = 1 := by
  have := all_bytes (p := fun u => u == 0 || gm u (g254 u) == 1) (by decide +kernel) u
  simpa [h] using this
/-- The inverse (0 of 0). -/
def ginv (u : UInt8) : UInt8 := gp u 254
theorem gm_ginv (u : UInt8) (h : u ≠ 0) : gm u (ginv u) = 1 := by rw [ginv, ← g254_gp, g254_inv u h]
theorem ginv_gm (u : UInt8) (h : u ≠ 0) : gm (ginv u) u = 1 := by rw [gm_comm, gm_ginv u h]
theorem gp_255 (u : UInt8) (h : u ≠ 0) : gp u 255 = 1 := ginv_gm u h
theorem gm_eq_zero {u v : UInt8} (h : gm u v = 0) : u = 0 ∨ v = 0 := by
  by_cases hu : u = 0
  · exact .inl hu
  · right
    have := congrArg (gm (ginv u)) h
    rwa [← gm_assoc, ginv_gm u hu, one_gm, gm_zero] at this
theorem gm_ne {u v : UInt8} (hu : u ≠ 0) (hv : v ≠ 0) : gm u v ≠ 0 := fun h => (gm_eq_zero h).elim hu hv
theorem gp_ne {u : UInt8} (h : u ≠ 0) : ∀ k, gp u k ≠ 0
  | 0 => (by decide : (1 : UInt8) ≠ 0)
  | k + 1 => gm_ne (gp_ne h k) h
theorem ginv_ne {u : UInt8} (h : u ≠ 0) : ginv u ≠ 0 := gp_ne h 254
theorem gm_cancel {u v w : UInt8} (h : u ≠ 0) (e : gm u v = gm u w) : v = w := by
  have := congrArg (gm (ginv u)) e
  rwa [← gm_assoc, ← gm_assoc, ginv_gm u h, one_gm, one_gm] at this
theorem zero_gp (k : Nat) : gp 0 (k + 1) = 0 := gm_zero (gp 0 k)
theorem gp_period {u : UInt8} (h : u ≠ 0) (a : Nat) : ∀ b, gp u (a + 255 * b) = gp u a
  | 0 => rfl
  | b + 1 => by rw [Nat.mul_succ, ← Nat.add_assoc, gp_add, gp_255 u h, gm_one, gp_period h a b]
theorem gp_mod {u : UInt8} (h : u ≠ 0) (n : Nat) : gp u (n % 255) = gp u n := by
  have := gp_period h (n % 255) (n / 255)
  rw [Nat.mod_add_div] at this
  exact this.symm
/-- Quotients. -/
def gd (u v : UInt8) : UInt8 := gm u (ginv v)
theorem gd_gm {u v : UInt8} (h : v ≠ 0) : gm (gd u v) v = u := by rw [gd, gm_assoc, ginv_gm v h, gm_one]
theorem gd_unique {u v c : UInt8} (h : v ≠ 0) (e : gm c v = u) : c = gd u v := by rw [gd, ← e, gm_assoc, gm_ginv v h, gm_one]

/-- Powers of any whole number, of a number that isn't 0: below 0 the inverse's. -/
def gz (u : UInt8) (n : Int) : UInt8 := gp u (n.emod 255).toNat
theorem gz_nat {u : UInt8} (h : u ≠ 0) (n : Nat) : gz u n = gp u n := by
  rw [gz, show ((n : Int).emod 255).toNat = n % 255 from by
    show ((n : Int) % 255).toNat = _
    omega, gp_mod h]
theorem gz_add {u : UInt8} (h : u ≠ 0) (n m : Int) : gm (gz u n) (gz u m) = gz u (n + m) := by
  unfold gz
  show gm (gp u (n % 255).toNat) (gp u (m % 255).toNat) = gp u ((n + m) % 255).toNat
  rw [← gp_add, ← gp_mod h ((n % 255).toNat + (m % 255).toNat)]
  congr 1
  omega
theorem gz_neg {u : UInt8} (h : u ≠ 0) (n : Int) : gm (gz u n) (gz u (-n)) = 1 := by
  rw [gz_add h, Int.add_right_neg]
  rfl
theorem gz_one {u : UInt8} (h : u ≠ 0) : gz u 1 = u := by
  have := gz_nat h 1
  rw [gp_one] at this
  exact this
end Go.Proofs.Ytccnoflgbopjlaa

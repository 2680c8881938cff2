/-
  Layer 14, plain: a pool's places and generations, and what each call makes of them. No program.
-/
import Derived.Test.YtgkdpljlgdlekaaDoorMa
namespace Go.Proofs.YtgkdpljlgdlekaaDoor
open Go.RowKit Go.Proofs
set_option linter.unusedVariables false

/-- A pool: n places from a on; f: those that are taken or in limbo; g: those in limbo; the epoch e, t generations of it told. -/
structure Ps where
  n : Nat
  a : Nat
  e : Nat
  t : Nat
  f : Nat → Bool
  g : Nat → Bool
structure Ps.Ok (p : Ps) : Prop where
  n1 : 1 ≤ p.n
  n2 : p.n ≤ 400
  a2 : p.a + p.n ≤ 600
  t2 : p.t ≤ 1048576
  e2 : p.e < 1099511627776
  sub : ∀ i, i < p.n → p.g i = true → p.f i = true
def newP (a n : Nat) : Ps := ⟨n, a, 0, 0, fun _ => false, fun _ => false⟩
/-- What becomes of one place: was it turned? -/
def takeS (p : Ps) (i : Int) : Bool × Ps := (setB p.n p.f i true, { p with f := setF p.n p.f i true })
def giveS (p : Ps) (i : Int) : Bool × Ps := if (inB p.n i && p.g i.toNat) = true then (false, p) else (setB p.n p.f i false, { p with f := setF p.n p.f i false })
def laterS (p : Ps) (i : Int) : Bool × Ps := if (inB p.n i && p.f i.toNat) = true then (setB p.n p.g i true, { p with g := setF p.n p.g i true }) else (false, p)
def settleS (p : Ps) (i : Int) : Bool × Ps := if setB p.n p.g i false = true then (setB p.n p.f i false, { p with g := setF p.n p.g i false, f := setF p.n p.f i false }) else (false, p)
/-- What becomes of places, one behind the other, and of how many something did. -/
def becL (st : Ps → Int → Bool × Ps) (a : Nat) : Nat × Ps → List Int → Nat × Ps
  | r, [] => r
  | r, z :: l => becL st a ((if (st r.2 (z - a)).1 = true then r.1 + 1 else r.1), (st r.2 (z - a)).2) l
/-- A step that keeps what it must. -/
structure Step14 (st : Ps → Int → Bool × Ps) : Prop where
  n : ∀ p i, (st p i).2.n = p.n
  a : ∀ p i, (st p i).2.a = p.a
  neg : ∀ p i, i < 0 → st p i = (false, p)

theorem inB_neg {n : Nat} {i : Int} (h : i < 0) : inB n i = false := by
  have h0 : ¬ 0 ≤ i := by omega
  simp [inB, h0]
theorem setB_neg {n : Nat} {f : Nat → Bool} {i : Int} {on : Bool} (h : i < 0) : setB n f i on = false := by rw [setB, inB_neg h, Bool.false_and]
theorem setF_neg {n : Nat} {f : Nat → Bool} {i : Int} {on : Bool} (h : i < 0) : setF n f i on = f := setF_same (setB_neg h)
theorem takeS_step : Step14 takeS := ⟨fun _ _ => rfl, fun _ _ => rfl, fun p i h => by rw [takeS, setB_neg h, setF_neg h]⟩
theorem giveS_step : Step14 giveS := ⟨fun p i => by unfold giveS; split <;> rfl, fun p i => by unfold giveS; split <;> rfl, fun p i h => by rw [giveS, setB_neg h, setF_neg h]; split <;> rfl⟩
theorem laterS_step : Step14 laterS := ⟨fun p i => by unfold laterS; split <;> rfl, fun p i => by unfold laterS; split <;> rfl, fun p i h => by rw [laterS, setB_neg h, setF_neg h]; split <;> rfl⟩
theorem settleS_step : Step14 settleS := ⟨fun p i => by unfold settleS; split <;> rfl, fun p i => by unfold settleS; split <;> rfl, fun p i h => by rw [settleS, setB_neg h]; rfl⟩
/-- What stands at a place behind Set. -/
theorem setF_at (n : Nat) (f : Nat → Bool) (i : Int) (on : Bool) (j : Nat) : setF n f i on j = if j < n ∧ (j : Int) = i then on else f j := by
  rw [setF]
  by_cases hi : inB n i = true
  · have hr : 0 ≤ i ∧ i < (n : Int) := by simpa [inB] using hi
    rw [if_pos hi, putB]
    by_cases e : j = i.toNat
    · rw [if_pos e, if_pos ⟨by omega, by omega⟩]
    · rw [if_neg e, if_neg (by omega)]
  · rw [if_neg hi, if_neg]
    intro ⟨h1, h2⟩
    exact hi (by simp [inB]; omega)
theorem inB_at {n : Nat} {i : Int} (h : inB n i = true) : i.toNat < n ∧ ((i.toNat : Nat) : Int) = i := by
  have hr : 0 ≤ i ∧ i < (n : Int) := by simpa [inB] using h
  omega
/-- Is the place with that number on a list of places? -/
def onL (p : Ps) (zs : List Int) (i : Nat) : Bool := decide (i < p.n ∧ ((p.a + i : Nat) : Int) ∈ zs)
theorem onL_nil (p : Ps) (i : Nat) : onL p [] i = false := by simp [onL]
theorem onL_cons (p : Ps) (z : Int) (l : List Int) (i : Nat) : onL p (z :: l) i = (decide (i < p.n ∧ (i : Int) = z - p.a) || onL p l i) := by
  rw [onL, onL, ← Bool.decide_or]
  congr 1
  rw [List.mem_cons, and_or_left]
  congr 2
  apply propext
  constructor <;> (intro h; omega)
/-- All of them are taken; given; go to limbo; come back from it. -/
def takeAll (p : Ps) (zs : List Int) : Ps := { p with f := fun i => p.f i || onL p zs i }
def giveAll (p : Ps) (zs : List Int) : Ps := { p with f := fun i => p.f i && (!(onL p zs i) || p.g i) }
def laterAll (p : Ps) (zs : List Int) : Ps := { p with g := fun i => p.g i || (onL p zs i && p.f i) }
def settleAll (p : Ps) (zs : List Int) : Ps := { p with f := fun i => p.f i && !(onL p zs i && p.g i), g := fun i => p.g i && !(onL p zs i) }
theorem Ps.ext {p q : Ps} (h1 : p.n = q.n) (h2 : p.a = q.a) (h3 : p.e = q.e) (h4 : p.t = q.t) (h5 : ∀ i, p.f i = q.f i) (h6 : ∀ i, p.g i = q.g i) : p = q := by
  cases p; cases q
  simp only at h1 h2 h3 h4 h5 h6
  subst h1 h2 h3 h4
  congr 1 <;> funext i
  · exact h5 i
  · exact h6 i
theorem bec_take : ∀ (zs : List Int) (c : Nat) (p : Ps), (becL takeS p.a (c, p) zs).2 = takeAll p zs
  | [], c, p => Ps.ext rfl rfl rfl rfl (fun i => by show p.f i = (p.f i || onL p [] i); rw [onL_nil, Bool.or_false]) (fun _ => rfl)
  | z :: l, c, p => by
    rw [becL]
    refine (bec_take l _ (takeS p (z - p.a)).2).trans ?_
    refine Ps.ext rfl rfl rfl rfl (fun i => ?_) (fun _ => rfl)
    show (setF p.n p.f (z - p.a) true i || onL p l i) = (p.f i || onL p (z :: l) i)
    rw [setF_at, onL_cons]
    by_cases h : i < p.n ∧ (i : Int) = z - p.a
    · rw [if_pos h, decide_eq_true h]; cases p.f i <;> simp
    · rw [if_neg h, decide_eq_false h, Bool.false_or]
theorem bec_give : ∀ (zs : List Int) (c : Nat) (p : Ps), (becL giveS p.a (c, p) zs).2 = giveAll p zs
  | [], c, p => Ps.ext rfl rfl rfl rfl (fun i => by show p.f i = (p.f i && (!(onL p [] i) || p.g i)); rw [onL_nil]; simp) (fun _ => rfl)
  | z :: l, c, p => by
    rw [becL]
    have ha := giveS_step.a p (z - p.a)
    have hn := giveS_step.n p (z - p.a)
    have hr := bec_give l (if (giveS p (z - p.a)).1 = true then c + 1 else c) (giveS p (z - p.a)).2
    rw [ha] at hr
    refine hr.trans ?_
    by_cases hg : (inB p.n (z - p.a) && p.g (z - p.a).toNat) = true
    · rw [giveS, if_pos hg]
      rw [Bool.and_eq_true] at hg
      obtain ⟨h1, h2⟩ := inB_at hg.1
      refine Ps.ext rfl rfl rfl rfl (fun i => ?_) (fun _ => rfl)
      show (p.f i && (!(onL p l i) || p.g i)) = (p.f i && (!(onL p (z :: l) i) || p.g i))
      rw [onL_cons]
      by_cases h : i < p.n ∧ (i : Int) = z - p.a
      · have e : i = (z - p.a).toNat := by omega
        rw [e, hg.2]; simp
      · rw [decide_eq_false h, Bool.false_or]
    · rw [giveS, if_neg hg]
      refine Ps.ext rfl rfl rfl rfl (fun i => ?_) (fun _ => rfl)
      show (setF p.n p.f (z - p.a) false i && (!(onL p l i) || p.g i)) = (p.f i && (!(onL p (z :: l) i) || p.g i))
      rw [setF_at, onL_cons]
      by_cases h : i < p.n ∧ (i : Int) = z - p.a
      · have e : i = (z - p.a).toNat := by omega
        have hg0 : p.g i = false := by
          cases hgi : p.g i with
          | false => rfl
          | true => exact absurd (by rw [← e, hgi, Bool.and_true]; simp [inB]; omega) hg
        rw [if_pos h, decide_eq_true h, hg0]; simp
      · rw [if_neg h, decide_eq_false h, Bool.false_or]
theorem bec_later : ∀ (zs : List Int) (c : Nat) (p : Ps), (becL laterS p.a (c, p) zs).2 = laterAll p zs
  | [], c, p => Ps.ext rfl rfl rfl rfl (fun _ => rfl) (fun i => by show p.g i = (p.g i || (onL p [] i && p.f i)); rw [onL_nil]; simp)
  | z :: l, c, p => by
    rw [becL]
    have ha := laterS_step.a p (z - p.a)
    have hr := bec_later l (if (laterS p (z - p.a)).1 = true then c + 1 else c) (laterS p (z - p.a)).2
    rw [ha] at hr
    refine hr.trans ?_
    by_cases hg : (inB p.n (z - p.a) && p.f (z - p.a).toNat) = true
    · rw [laterS, if_pos hg]
      rw [Bool.and_eq_true] at hg
      obtain ⟨h1, h2⟩ := inB_at hg.1
      refine Ps.ext rfl rfl rfl rfl (fun _ => rfl) (fun i => ?_)
      show (setF p.n p.g (z - p.a) true i || (onL p l i && p.f i)) = (p.g i || (onL p (z :: l) i && p.f i))
      rw [setF_at, onL_cons]
      by_cases h : i < p.n ∧ (i : Int) = z - p.a
      · have e : i = (z - p.a).toNat := by omega
        rw [if_pos h, decide_eq_true h, e, hg.2]; simp
      · rw [if_neg h, decide_eq_false h, Bool.false_or]
    · rw [laterS, if_neg hg]
      refine Ps.ext rfl rfl rfl rfl (fun _ => rfl) (fun i => ?_)
      show (p.g i || (onL p l i && p.f i)) = (p.g i || (onL p (z :: l) i && p.f i))
      rw [onL_cons]
      by_cases h : i < p.n ∧ (i : Int) = z - p.a
      · have e : i = (z - p.a).toNat := by omega
        have hg0 : p.f i = false := by
          cases hgi : p.f i with
          | false => rfl
          | true => exact absurd (by rw [← e, hgi, Bool.and_true]; simp [inB]; omega) hg
        rw [hg0]; simp
      · rw [decide_eq_false h, Bool.false_or]
theorem bec_settle : ∀ (zs : List Int) (c : Nat) (p : Ps), (becL settleS p.a (c, p) zs).2 = settleAll p zs
  | [], c, p => Ps.ext rfl rfl rfl rfl (fun i => by show p.f i = (p.f i && !(onL p [] i && p.g i)); rw [onL_nil]; simp) (fun i => by show p.g i = (p.g i && !(onL p [] i)); rw [onL_nil]; simp)
  | z :: l, c, p => by
    rw [becL]
    have ha := settleS_step.a p (z - p.a)
    have hr := bec_settle l (if (settleS p (z - p.a)).1 = true then c + 1 else c) (settleS p (z - p.a)).2
    rw [ha] at hr
    refine hr.trans ?_
    by_cases hg : setB p.n p.g (z - p.a) false = true
    · rw [settleS, if_pos hg]
      rw [setB, Bool.and_eq_true] at hg
      obtain ⟨h1, h2⟩ := inB_at hg.1
      have hgt : p.g (z - p.a).toNat = true := by have := hg.2; revert this; cases p.g (z - p.a).toNat <;> simp
      refine Ps.ext rfl rfl rfl rfl (fun i => ?_) (fun i => ?_)
      · show (setF p.n p.f (z - p.a) false i && !(onL p l i && setF p.n p.g (z - p.a) false i)) = (p.f i && !(onL p (z :: l) i && p.g i))
        rw [setF_at, setF_at, onL_cons]
        by_cases h : i < p.n ∧ (i : Int) = z - p.a
        · have e : i = (z - p.a).toNat := by omega
          rw [if_pos h, decide_eq_true h, e, hgt]; simp
        · rw [if_neg h, if_neg h, decide_eq_false h, Bool.false_or]
      · show (setF p.n p.g (z - p.a) false i && !(onL p l i)) = (p.g i && !(onL p (z :: l) i))
        rw [setF_at, onL_cons]
        by_cases h : i < p.n ∧ (i : Int) = z - p.a
        · rw [if_pos h, decide_eq_true h]; simp
        · rw [if_neg h, decide_eq_false h, Bool.false_or]
    · rw [settleS, if_neg hg]
      refine Ps.ext rfl rfl rfl rfl (fun i => ?_) (fun i => ?_)
      · show (p.f i && !(onL p l i && p.g i)) = (p.f i && !(onL p (z :: l) i && p.g i))
        rw [onL_cons]
        by_cases h : i < p.n ∧ (i : Int) = z - p.a
        · have e : i = (z - p.a).toNat := by omega
          have hg0 : p.g i = false := by
            cases hgi : p.g i with
            | false => rfl
            | true => exact absurd (by rw [setB, ← e, hgi]; simp [inB]; omega) hg
          rw [hg0]; simp
        · rw [decide_eq_false h, Bool.false_or]
      · show (p.g i && !(onL p l i)) = (p.g i && !(onL p (z :: l) i))
        rw [onL_cons]
        by_cases h : i < p.n ∧ (i : Int) = z - p.a
        · have e : i = (z - p.a).toNat := by omega
          have hg0 : p.g i = false := by
            cases hgi : p.g i with
            | false => rfl
            | true => exact absurd (by rw [setB, ← e, hgi]; simp [inB]; omega) hg
          rw [hg0]; simp
        · rw [decide_eq_false h, Bool.false_or]
/-- How many come back from limbo: all that are on the list, if each is in limbo, and none twice. -/
theorem bec_settle_cnt : ∀ (zs : List Int) (c : Nat) (p : Ps), p.Ok → zs.Nodup → (∀ z ∈ zs, inB p.n (z - p.a) = true ∧ p.g (z - p.a).toNat = true) → (becL settleS p.a (c, p) zs).1 = c + zs.length
  | [], c, p, _, _, _ => rfl
  | z :: l, c, p, hok, hnd, hall => by
    rw [becL]
    obtain ⟨hz, hl⟩ := List.nodup_cons.1 hnd
    obtain ⟨h1, h2⟩ := hall z (List.mem_cons_self)
    obtain ⟨h3, h4⟩ := inB_at h1
    have hs : setB p.n p.g (z - p.a) false = true := by rw [setB, h1, h2]; rfl
    have hf : setB p.n p.f (z - p.a) false = true := by rw [setB, h1, hok.sub _ h3 h2]; rfl
    have e : settleS p (z - p.a) = (true, { p with g := setF p.n p.g (z - p.a) false, f := setF p.n p.f (z - p.a) false }) := by rw [settleS, if_pos hs, hf]
    rw [e]
    have hok' : Ps.Ok { p with g := setF p.n p.g (z - p.a) false, f := setF p.n p.f (z - p.a) false } := by
      refine ⟨hok.n1, hok.n2, hok.a2, hok.t2, hok.e2, fun i hi hg => ?_⟩
      show setF p.n p.f (z - p.a) false i = true
      have hg : setF p.n p.g (z - p.a) false i = true := hg
      rw [setF_at] at hg ⊢
      by_cases h : i < p.n ∧ (i : Int) = z - p.a
      · rw [if_pos h] at hg; cases hg
      · rw [if_neg h] at hg ⊢
        exact hok.sub i hi hg
    refine (bec_settle_cnt l (c + 1) _ hok' hl (fun y hy => ?_)).trans (by rw [List.length_cons]; omega)
    obtain ⟨k1, k2⟩ := hall y (List.mem_cons_of_mem _ hy)
    refine ⟨k1, ?_⟩
    show setF p.n p.g (z - p.a) false (y - p.a).toNat = true
    obtain ⟨k3, k4⟩ := inB_at k1
    rw [setF_at, if_neg]
    · exact k2
    · rintro ⟨_, e⟩
      have : y = z := by omega
      exact hz (this ▸ hy)
/-- Each step keeps what must hold. -/
theorem takeS_ok {p : Ps} (h : p.Ok) (i : Int) : (takeS p i).2.Ok := by
  refine ⟨h.n1, h.n2, h.a2, h.t2, h.e2, fun j hj hg => ?_⟩
  show setF p.n p.f i true j = true
  rw [setF_at]
  split
  · rfl
  · exact h.sub j hj hg
theorem giveS_ok {p : Ps} (h : p.Ok) (i : Int) : (giveS p i).2.Ok := by
  unfold giveS
  split
  · exact h
  · rename_i hn
    refine ⟨h.n1, h.n2, h.a2, h.t2, h.e2, fun j hj hg => ?_⟩
    show setF p.n p.f i false j = true
    have hg : p.g j = true := hg
    rw [setF_at, if_neg]
    · exact h.sub j hj hg
    · rintro ⟨h1, e⟩
      have e2 : i.toNat = j := by omega
      exact hn (by rw [e2, hg]; simp [inB]; omega)
theorem laterS_ok {p : Ps} (h : p.Ok) (i : Int) : (laterS p i).2.Ok := by
  unfold laterS
  split
  · rename_i hn
    refine ⟨h.n1, h.n2, h.a2, h.t2, h.e2, fun j hj hg => ?_⟩
    have hg : setF p.n p.g i true j = true := hg
    show p.f j = true
    rw [setF_at] at hg
    by_cases e : j < p.n ∧ (j : Int) = i
    · rw [Bool.and_eq_true] at hn
      have e2 : j = i.toNat := by omega
      rw [e2]; exact hn.2
    · rw [if_neg e] at hg
      exact h.sub j hj hg
  · exact h
theorem settleS_ok {p : Ps} (h : p.Ok) (i : Int) : (settleS p i).2.Ok := by
  unfold settleS
  split
  · refine ⟨h.n1, h.n2, h.a2, h.t2, h.e2, fun j hj hg => ?_⟩
    have hg : setF p.n p.g i false j = true := hg
    show setF p.n p.f i false j = true
    rw [setF_at] at hg ⊢
    by_cases e : j < p.n ∧ (j : Int) = i
    · rw [if_pos e] at hg; cases hg
    · rw [if_neg e] at hg ⊢
      exact h.sub j hj hg
  · exact h
/-- The places with these numbers. -/
def placesL (p : Ps) (l : List Nat) : List Nat := l.map (p.a + ·)
/-- Those that are taken, and not in limbo, by number. -/
def takenL (p : Ps) : List Nat := (plc p.n 0 p.f true).filter fun i => !p.g i
theorem takenL_mem {p : Ps} {i : Nat} : i ∈ takenL p ↔ i < p.n ∧ p.f i = true ∧ p.g i = false := by
  rw [takenL, List.mem_filter, plc_mem]
  constructor
  · rintro ⟨⟨_, h1, h2⟩, h3⟩; exact ⟨h1, h2, by simpa using h3⟩
  · rintro ⟨h1, h2, h3⟩; exact ⟨⟨Nat.zero_le _, h1, h2⟩, by simpa using h3⟩
end Go.Proofs.YtgkdpljlgdlekaaDoor

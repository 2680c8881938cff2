/-
  Matrices as plain data; what a law's variables hold; contracts of package matrix's calls for whatever matrices. Condition: the field is one that New made.
-/
import Derived.Test.YtccnoflgbopjlaaMdt
import Derived.Test.YtccnoflgbopjlaaMdm
namespace Go.Proofs.Ytccnoflgbopjlaa
open Go.RowKit Go.Proofs
set_option linter.unusedVariables false

/-- A matrix: rows, columns, numbers. -/
structure M3 where
  r : Int
  c : Int
  l : List UInt8
def M3.ok (m : M3) : Bool := rightB m.r m.c m.l.length
def M3.none : M3 := ⟨0, 0, []⟩
/-- The value of a matrix whose numbers lie at A. -/
def M3.v (m : M3) (A : Option Addr) (cp : Nat) : Value := .agg #[.int .i64 m.r, .int .i64 m.c, .slice A m.l.length cp]
def M3.box (m : M3) (A : Option Addr) (cp : Nat) : Obj := boxM m.r m.c A m.l.length cp
/-- R rows, C columns, f in them. -/
def M3.of (R C : Nat) (f : Mx) : M3 := ⟨(R : Int), (C : Int), tabL R C f⟩
/-- m is right, has R rows, C columns, and reads as f. -/
structure M3.Is (m : M3) (R C : Nat) (f : Mx) : Prop where
  r : m.r = (R : Int)
  c : m.c = (C : Int)
  r1 : 1 ≤ R
  r2 : R ≤ 255
  c1 : 1 ≤ C
  c2 : C ≤ 255
  l : m.l = tabL R C f
theorem M3.Is.len {m : M3} {R C : Nat} {f : Mx} (h : m.Is R C f) : m.l.length = R * C := by rw [h.l, tabL_length]
theorem M3.Is.ok {m : M3} {R C : Nat} {f : Mx} (h : m.Is R C f) : m.ok = true := decide_eq_true ⟨by have := h.r; have := h.r1; omega, by have := h.r; have := h.r2; omega, by have := h.c; have := h.c1; omega, by have := h.c; have := h.c2; omega, by rw [h.len, h.r, h.c]; simp⟩
theorem M3.is_of_ok {m : M3} (h : m.ok = true) : ∃ R C, m.Is R C (mx C m.l) := by
  obtain ⟨R, C, hr, hc, h1, h2, h3, h4, hn⟩ := rightB_nat h
  exact ⟨R, C, hr, hc, h1, h2, h3, h4, (tabL_mx hn).symm⟩
theorem M3.Is.mx {m : M3} {R C : Nat} {f : Mx} (h : m.Is R C f) : Alike R C (mx C m.l) f := fun i hi j hj => by rw [h.l, mx_tabL f hi hj]
theorem M3.Is.congr {m : M3} {R C : Nat} {f g : Mx} (h : m.Is R C f) (e : Alike R C f g) : m.Is R C g := ⟨h.r, h.c, h.r1, h.r2, h.c1, h.c2, by rw [h.l]; exact tabL_congr e⟩
theorem M3.is_of {R C : Nat} {f : Mx} (h1 : 1 ≤ R) (h2 : R ≤ 255) (h3 : 1 ≤ C) (h4 : C ≤ 255) : (M3.of R C f).Is R C f := ⟨rfl, rfl, h1, h2, h3, h4, rfl⟩
theorem M3.Is.eq {m : M3} {R C : Nat} {f : Mx} (h : m.Is R C f) : m = M3.of R C f := by
  obtain ⟨r, c, l⟩ := m
  have h1 := h.r; have h2 := h.c; have h3 := h.l
  simp only at h1 h2 h3
  rw [h1, h2, h3]
  rfl
theorem M3.Is.same {m m' : M3} {R C : Nat} {f g : Mx} (h : m.Is R C f) (h' : m'.Is R C g) (e : Alike R C f g) : m = m' := by rw [h.eq, (h'.congr (fun i hi j hj => (e i hi j hj).symm)).eq]
theorem M3.Is.unique {m : M3} {R C R' C' : Nat} {f g : Mx} (h : m.Is R C f) (h' : m.Is R' C' g) : R = R' ∧ C = C' := by
  have := h.r; have := h'.r; have := h.c; have := h'.c
  constructor <;> omega
theorem M3.none_ok : M3.none.ok = false := by decide

/-- What Mul makes of a and b: o, and an error's number. -/
def MulR (a b o : M3) (x : Int) : Prop :=
  (∃ R D C, a.Is R D (mx D a.l) ∧ b.Is D C (mx C b.l) ∧ o.Is R C (mm D (mx D a.l) (mx C b.l)) ∧ x = 0) ∨ (¬ (a.ok = true ∧ b.ok = true ∧ a.c = b.r) ∧ o = M3.none ∧ x = 2)
/-- What Invert makes of a. -/
def InvR (a o : M3) (x : Int) : Prop :=
  (∃ n, a.Is n n (mx n a.l) ∧ ((∃ X, Alike n n (mm n X (mx n a.l)) one ∧ o.Is n n X ∧ x = 0) ∨ (∃ L, L < n ∧ Rk n n (mx n a.l) L ∧ o = M3.none ∧ x = 40))) ∨ (¬ (a.ok = true ∧ a.r = a.c) ∧ o = M3.none ∧ x = 2)

/-- A variable of a law: a matrix. -/
structure Vr where
  g : Nat
  m : M3
  A : Option Addr
  cp : Nat
/-- In a call that began in w0: a field at F, T of its own; what lay in memory lies there still; the variables hold matrices. -/
structure St (w0 : World) (F T : Nat) (vs : List Vr) (w : World) : Prop where
  inn : In w0 F T w
  vars : ∀ v ∈ vs, MB w T v.g v.m.r v.m.c v.A v.m.l.length v.cp v.m.l
section
variable {w0 w w' : World} {F T : Nat} {vs : List Vr}
theorem St.call (h : St w0 F T vs w) (hf : Fld1 w' F T) (hr : Fr (Ft T) w w') : St w0 F T vs w' := ⟨h.inn.next hf hr, fun v hv => (h.vars v hv).next hr⟩
theorem St.later (h : St w0 F T vs w) (hb : Below w.heap.size w w') : St w0 F T vs w' := ⟨h.inn.later hb, fun v hv => (h.vars v hv).later hb⟩
theorem St.add (h : St w0 F T vs w) (m : M3) (A : Option Addr) (cp : Nat) (hm : MxAt w T A m.l.length cp m.l) : St w0 F T (⟨w.heap.size, m, A, cp⟩ :: vs) (w.alloc (m.box A cp)) :=
  ⟨h.inn.later ((Below.refl _ _).alloc (Nat.le_refl _) _), fun v hv => by
    rcases List.mem_cons.1 hv with rfl | hv
    · exact MB.new hm h.inn.fld.ltT
    · exact (h.vars v hv).later ((Below.refl _ _).alloc (Nat.le_refl _) _)⟩
theorem St.c0 (h : St w0 F T vs w) {v : Vr} (hv : v ∈ vs) : w.cell? ⟨v.g, 0, none⟩ = some (.int .i64 v.m.r) := (h.vars v hv).c0
theorem St.c1 (h : St w0 F T vs w) {v : Vr} (hv : v ∈ vs) : w.cell? ⟨v.g, 1, none⟩ = some (.int .i64 v.m.c) := (h.vars v hv).c1
theorem St.c2 (h : St w0 F T vs w) {v : Vr} (hv : v ∈ vs) : w.cell? ⟨v.g, 2, none⟩ = some (.slice v.A v.m.l.length v.cp) := (h.vars v hv).c2
end

/-- What a call answers that makes a matrix and an error. -/
def RetM (T : Nat) (R : M3 → Int → Prop) (w : World) (e : Ending) (w' : World) : Prop := ∃ (m : M3) (A : Option Addr) (cp : Nat) (x : Int), e = .returned (.tuple #[m.v A cp, .int .i64 x]) ∧ MxAt w' T A m.l.length cp m.l ∧ R m x ∧ ∀ b o, 0 < m.l.length → A = some ⟨b, o, none⟩ → w.heap.size ≤ b
theorem none_at (w : World) (T : Nat) : MxAt w T none M3.none.l.length 0 M3.none.l := ⟨Sl.nil w 1 0 (by decide), fun b o h => absurd h (by decide)⟩
theorem RetM.no {T : Nat} {R : M3 → Int → Prop} {x : Int} {e : Ending} {w w' : World} (he : e = .returned (NoMx x)) (hR : R M3.none x) : RetM T R w e w' := ⟨M3.none, Option.none, 0, x, he, none_at w' T, hR, fun b o h => absurd h (by decide)⟩
theorem RetM.yes {T : Nat} {R : M3 → Int → Prop} {e : Ending} {w w' : World} {n c : Nat} {f : Mx} (h : RetOk n c (tabL n c f) w e w') (hT : T < w.heap.size) (hR : R (M3.of n c f) 0) : RetM T R w e w' := by
  obtain ⟨A, cp, rfl, hg⟩ := h
  exact ⟨M3.of n c f, A, cp, 0, by show _ = Ending.returned (.tuple #[.agg #[.int .i64 (n : Int), .int .i64 (c : Int), .slice A (tabL n c f).length cp], .int .i64 0]); rw [tabL_length], by show MxAt w' T A (tabL n c f).length cp (tabL n c f); rw [tabL_length]; exact hg.at_ hT, hR, fun b o hn hA => by
    have hn : 0 < (tabL n c f).length := hn
    rw [tabL_length] at hn
    exact ownsRow_new (hg.row hn) hn hA⟩

theorem mul_all (F T : Nat) (a b : M3) (A A' : Option Addr) (cp cp' : Nat) (w : World) (h : Fld w F T) (ha : MxAt w T A a.l.length cp a.l) (hb : MxAt w T A' b.l.length cp' b.l) :
    Calls Try.prog 20 #[.pointer (some ⟨F, 0, none⟩), .agg #[.int .i64 a.r, .int .i64 a.c, .slice A a.l.length cp], .agg #[.int .i64 b.r, .int .i64 b.c, .slice A' b.l.length cp']] w fun e w' => RetM T (MulR a b) w e w' ∧ Fld1 w' F T ∧ Fr (Ft T) w w' := by
  by_cases hok : a.ok = true ∧ b.ok = true ∧ a.c = b.r
  · obtain ⟨R, D, hA⟩ := M3.is_of_ok hok.1
    obtain ⟨D', C, hB⟩ := M3.is_of_ok hok.2.1
    obtain rfl : D = D' := by have := hA.c; have := hB.r; have := hok.2.2; omega
    have hT := h.ltT
    have hh := mul_yes F T R D C A a.l.length cp a.l A' b.l.length cp' b.l hA.r1 hA.r2 hA.c1 hA.c2 hB.c1 hB.c2 hA.len hB.len w h ha hb
    rw [hA.r, hA.c, hB.r, hB.c]
    refine hh.mono ?_; rintro e w' ⟨h1, h2, h3⟩
    exact ⟨RetM.yes h1 hT (.inl ⟨R, D, C, hA, hB, M3.is_of hA.r1 hA.r2 hB.c1 hB.c2, rfl⟩), h2, h3⟩
  · refine (mul_no F T a.r a.c A a.l.length cp b.r b.c A' b.l.length cp' ha.sl.lim hb.sl.lim w h hok).mono ?_; rintro e w' ⟨h1, h2, h3⟩
    exact ⟨RetM.no h1 (.inr ⟨hok, rfl, rfl⟩), h2, h3⟩
theorem inv_all (F T : Nat) (a : M3) (A : Option Addr) (cp : Nat) (w : World) (h : Fld w F T) (ha : MxAt w T A a.l.length cp a.l) :
    Calls Try.prog 23 #[.pointer (some ⟨F, 0, none⟩), .agg #[.int .i64 a.r, .int .i64 a.c, .slice A a.l.length cp]] w fun e w' => RetM T (InvR a) w e w' ∧ Fld1 w' F T ∧ Fr (Ft T) w w' := by
  by_cases hok : a.ok = true ∧ a.r = a.c
  · obtain ⟨R, C, hA⟩ := M3.is_of_ok hok.1
    obtain rfl : R = C := by have := hA.c; have := hA.r; have := hok.2; omega
    have hT := h.ltT
    have hh := invert_yes F T R A a.l.length cp a.l hA.r1 hA.r2 hA.len w h ha
    rw [hA.r, hA.c]
    refine hh.mono ?_; rintro e w' ⟨h1, h2, h3⟩
    refine ⟨?_, h2, h3⟩
    rcases h1 with ⟨L, hL, hk, he⟩ | ⟨X, hX, ho⟩
    · exact RetM.no he (.inl ⟨R, hA, .inr ⟨L, hL, hk, rfl, rfl⟩⟩)
    · exact RetM.yes ho hT (.inl ⟨R, hA, .inl ⟨X, hX, M3.is_of hA.r1 hA.r2 hA.r1 hA.r2, rfl⟩⟩)
  · refine (invert_no F T a.r a.c A a.l.length cp ha.sl.lim w h hok).mono ?_; rintro e w' ⟨h1, h2, h3⟩
    exact ⟨RetM.no h1 (.inr ⟨hok, rfl, rfl⟩), h2, h3⟩
/-- Same, of two variables' matrices. -/
theorem same_all (a b : M3) (A A' : Option Addr) (cp cp' : Nat) (w : World) (ha : Sl w 1 A a.l.length cp (cells a.l)) (hb : Sl w 1 A' b.l.length cp' (cells b.l)) :
    Calls Try.prog 13 #[.agg #[.int .i64 a.r, .int .i64 a.c, .slice A a.l.length cp], .agg #[.int .i64 b.r, .int .i64 b.c, .slice A' b.l.length cp']] w fun e w' => e = .returned (.bool (decide (a.r = b.r ∧ a.c = b.c ∧ a.l = b.l))) ∧ Below w.heap.size w w' :=
  rsame_any a.r a.c A a.l.length cp a.l b.r b.c A' b.l.length cp' b.l w ha hb
theorem same_yes (a b : M3) (A A' : Option Addr) (cp cp' : Nat) (w : World) (ha : Sl w 1 A a.l.length cp (cells a.l)) (hb : Sl w 1 A' b.l.length cp' (cells b.l)) (e : a = b) :
    Calls Try.prog 13 #[.agg #[.int .i64 a.r, .int .i64 a.c, .slice A a.l.length cp], .agg #[.int .i64 b.r, .int .i64 b.c, .slice A' b.l.length cp']] w fun e w' => e = .returned (.bool true) ∧ Below w.heap.size w w' :=
  (same_all a b A A' cp cp' w ha hb).mono fun e' w' ⟨h, k⟩ => ⟨by rw [h, decide_eq_true ⟨by rw [e], by rw [e], by rw [e]⟩], k⟩
end Go.Proofs.Ytccnoflgbopjlaa

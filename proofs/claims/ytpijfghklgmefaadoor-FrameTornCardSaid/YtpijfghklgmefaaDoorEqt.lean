/-
  Structs held against each other field by field. No condition.
-/
import Derived.Test.YtpijfghklgmefaaDoorKa
import Derived.Stop.BytesEq
namespace Go.Proofs.YtpijfghklgmefaaDoor
open Go.RowKit Go.Proofs
set_option linter.unusedVariables false

/-- Field by field, told by what each is. -/
def eqTrip (d : Nat) (xs ys : Array Value) : List (Bool × TypeId × Nat) → Sem Bool
  | [] => pure true
  | (b, t, o) :: fs =>
    if b = true then do
      let x ← part t xs o
      let y ← part t ys o
      let r ← Op.equalIn d t x y
      if (!r) = true then pure false else eqTrip d xs ys fs
    else eqTrip d xs ys fs
theorem eqFields_trip (d : Nat) (xs ys : Array Value) : ∀ fs : List Field, Op.eqFields d xs ys fs = eqTrip d xs ys (fs.map fun f => (decide (f.name ≠ "_"), f.type, f.offset))
  | [] => rfl
  | f :: fs => by
    rw [Op.eqFields, List.map_cons, eqTrip, eqFields_trip d xs ys fs]
    by_cases h : f.name ≠ "_"
    · rw [if_pos h, if_pos (decide_eq_true h)]
    · rw [if_neg h, if_neg (by simpa using h)]
section
variable {P : Program} (w : World)
theorem part_int {t : TypeId} {k : IntKind} (h : P.underlying t = some (.int k)) (xs : Array Value) (o : Nat) (u : Value) (hu : xs[o]? = some u) : (part t xs o).run P w = .ok u w := by
  simp [part, isAgg, run_underlying h, hu]
theorem part_arr {t e : TypeId} {n : Nat} (h : P.underlying t = some (.array n e)) (hs : ∀ w, (sizeOf t).run P w = .ok n w) (xs : Array Value) (o : Nat) : (part t xs o).run P w = .ok (.agg (xs.extract o (o + n))) w := by
  simp [part, isAgg, run_underlying h, hs]
theorem eqTrip_int {d : Nat} {t : TypeId} {k k1 : IntKind} (h : P.underlying t = some (.int k)) {xs ys : Array Value} {o : Nat} {a b : Int} (hx : xs[o]? = some (.int k1 a)) (hy : ys[o]? = some (.int k1 b)) (fs : List (Bool × TypeId × Nat)) {r : Bool}
    (hr : (eqTrip (d + 1) xs ys fs).run P w = .ok r w) : (eqTrip (d + 1) xs ys ((true, t, o) :: fs)).run P w = .ok (a == b && r) w := by
  have he : (Op.equalIn (d + 1) t (.int k1 a) (.int k1 b)).run P w = .ok (a == b) w := by simp [Op.equalIn, run_underlying h]
  simp only [eqTrip, if_pos, Sem.run_bind, part_int w h xs o _ hx, part_int w h ys o _ hy, he, Result.andThen_ok]
  cases (a == b)
  · simp
  · simp [hr]
theorem eqTrip_arr {d : Nat} {t e : TypeId} {n : Nat} (h : P.underlying t = some (.array n e)) (hs : ∀ w, (sizeOf t).run P w = .ok n w) {xs ys X Y : Array Value} {o : Nat} (hx : xs.extract o (o + n) = X) (hy : ys.extract o (o + n) = Y) {r : Bool}
    (hr : (Op.equalIn d t (.agg X) (.agg Y)).run P w = .ok r w) : (eqTrip d xs ys [(true, t, o)]).run P w = .ok r w := by
  have px := part_arr (P := P) w h hs xs o
  have py := part_arr (P := P) w h hs ys o
  rw [hx] at px
  rw [hy] at py
  simp only [eqTrip, if_pos, Sem.run_bind, px, py, hr, Result.andThen_ok]
  cases r <;> simp
theorem part_str {t : TypeId} (h : P.underlying t = some .string) (xs : Array Value) (o : Nat) (u : Value) (hu : xs[o]? = some u) : (part t xs o).run P w = .ok u w := by
  simp [part, isAgg, run_underlying h, hu]
theorem part_bool {t : TypeId} (h : P.underlying t = some .bool) (xs : Array Value) (o : Nat) (u : Value) (hu : xs[o]? = some u) : (part t xs o).run P w = .ok u w := by
  simp [part, isAgg, run_underlying h, hu]
theorem eqTrip_str {d : Nat} {t : TypeId} (h : P.underlying t = some .string) {xs ys : Array Value} {o : Nat} {a b : ByteArray} (hx : xs[o]? = some (.string a)) (hy' : ys[o]? = some (.string b)) (fs : List (Bool × TypeId × Nat)) {r : Bool}
    (hr : (eqTrip (d + 1) xs ys fs).run P w = .ok r w) : (eqTrip (d + 1) xs ys ((true, t, o) :: fs)).run P w = .ok ((a.toList == b.toList) && r) w := by
  have he := run_equalIn_string (P := P) w d t a b h
  obtain ⟨y, hy⟩ : ∃ y, y = (a.toList == b.toList) := ⟨_, rfl⟩
  rw [← hy] at he ⊢
  simp only [eqTrip, if_pos, Sem.run_bind, part_str w h xs o _ hx, part_str w h ys o _ hy', he, Result.andThen_ok]
  cases y
  · simp
  · simp [hr]
theorem eqTrip_bool {d : Nat} {t : TypeId} (h : P.underlying t = some .bool) {xs ys : Array Value} {o : Nat} {a b : Bool} (hx : xs[o]? = some (.bool a)) (hy' : ys[o]? = some (.bool b)) (fs : List (Bool × TypeId × Nat)) {r : Bool}
    (hr : (eqTrip (d + 1) xs ys fs).run P w = .ok r w) : (eqTrip (d + 1) xs ys ((true, t, o) :: fs)).run P w = .ok ((a == b) && r) w := by
  have he := run_equalIn_bool' (P := P) w d t a b h
  obtain ⟨y, hy⟩ : ∃ y, y = (a == b) := ⟨_, rfl⟩
  rw [← hy] at he ⊢
  simp only [eqTrip, if_pos, Sem.run_bind, part_bool w h xs o _ hx, part_bool w h ys o _ hy', he, Result.andThen_ok]
  cases y
  · simp
  · simp [hr]
end
end Go.Proofs.YtpijfghklgmefaaDoor

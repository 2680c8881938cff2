/-
  Writes that wait, and a crash that keeps some of them (layer 9, DriveCrashes): plain words. No program.
-/
import Derived.Test.YtmlmlmlbdjhfhaaDrg
namespace Go.Proofs.Ytmlmlmlbdjhfhaa
open Go.RowKit Go.Proofs
set_option linter.unusedVariables false

/-- Where the law puts a place that may lie outside. -/
def cl9 (N : Nat) (z : Int) : Nat := (max 0 (min z ((N : Int) - 1))).toNat
theorem cl9_lt {N : Nat} (h : 0 < N) (z : Int) : cl9 N z < N := by unfold cl9; omega
theorem cl9_eq {N : Nat} (z : Int) : ((cl9 N z : Nat) : Int) = max 0 (min z ((N : Int) - 1)) := by unfold cl9; omega
theorem wrap_pred (M : Nat) (h : M < 1000) : IntKind.i64.wrap ((M : Int) - 1) = (M : Int) - 1 := by
  rw [IntKind.wrap_i64]
  omega
theorem step_min9 {ρ : Operand → Value} {o : Oper} {x y : Operand} {w : World} {a b : Int} (ho : o.op = .call { callee := .builtin .min, args := #[x, y], argTypes := #[3, 3] }) (hx : ρ x = .int .i64 a) (hy : ρ y = .int .i64 b) : (execOp ρ o).run Try.prog w = .ok (.value (.int .i64 (min a b))) w := by
  have e : (if b < a then b else a) = min a b := by split <;> omega
  unfold execOp
  simp only [ho, resolve, invoke, builtin, Sem.run_bind, Sem.run_pure, Result.andThen_ok, List.map_toArray, List.map_cons, List.map_nil, hx, hy, run_min_int2, e]
theorem step_max9 {ρ : Operand → Value} {o : Oper} {x y : Operand} {w : World} {a b : Int} (ho : o.op = .call { callee := .builtin .max, args := #[x, y], argTypes := #[3, 3] }) (hx : ρ x = .int .i64 a) (hy : ρ y = .int .i64 b) : (execOp ρ o).run Try.prog w = .ok (.value (.int .i64 (max a b))) w := by
  have e : (if b > a then b else a) = max a b := by split <;> omega
  unfold execOp
  simp only [ho, resolve, invoke, builtin, Sem.run_bind, Sem.run_pure, Result.andThen_ok, List.map_toArray, List.map_cons, List.map_nil, hx, hy, run_max_int2, e]
theorem step_eqi9 {ρ : Operand → Value} {o : Oper} {x y : Operand} {w : World} {a b : Int} {t u : TypeId} {r : Bool} (ho : o.op = .binOp .eql t x y u) (hx : ρ x = .int .i64 a) (hy : ρ y = .int .i64 b) (hr : decide (a = b) = r) : (execOp ρ o).run Try.prog w = .ok (.value (.bool r)) w := by
  subst hr
  have e : (a == b) = decide (a = b) := by
    by_cases h : a = b
    · subst h; simp
    · simp [h]
  unfold execOp
  simp [ho, hx, hy, go_sem, e]
theorem step_equ9 {ρ : Operand → Value} {o : Oper} {x y : Operand} {w : World} {a b : UInt8} {t u : TypeId} (ho : o.op = .binOp .eql t x y u) (hx : ρ x = .int .u8 (a.toNat : Int)) (hy : ρ y = .int .u8 (b.toNat : Int)) : (execOp ρ o).run Try.prog w = .ok (.value (.bool (decide (a = b)))) w := by
  have e : ((a.toNat : Int) == (b.toNat : Int)) = decide (a = b) := by
    by_cases h : a = b
    · subst h; simp
    · have : ¬ (a.toNat : Int) = (b.toNat : Int) := fun hh => h (UInt8.toNat_inj.1 (by omega))
      simp [h]
      exact fun hh => h (UInt8.toNat_inj.1 (by omega))
  unfold execOp
  simp only [ho, hx, hy]
  simp [go_sem, e]
theorem step_cl9 {ρ : Operand → Value} {o : Oper} {y : Operand} {w : World} {N : Nat} {z : Int} (ho : o.op = .call { callee := .builtin .max, args := #[.const (.int .i64 0), y], argTypes := #[3, 3] }) (hc : ρ (.const (.int .i64 0)) = .int .i64 0) (hy : ρ y = .int .i64 (min z ((N : Int) - 1))) : (execOp ρ o).run Try.prog w = .ok (.value (.int .i64 ((cl9 N z : Nat) : Int))) w := by
  rw [cl9_eq]
  exact step_max9 ho hc hy
/-- What is stored are the bytes of l, sector by sector, and ps waits. -/
structure Wt (x : Dv) (N : Nat) (l : List UInt8) (ps : List (Nat × UInt8)) : Prop where
  n : x.n = N
  gone : x.gone = false
  wait : x.wait = ps.map fun p => (p.1, full p.2)
  len : l.length = N
  st : ∀ j, j < N → x.st.getD j [] = full (l.getD j 0)
  ok : x.Ok
section
variable {x : Dv} {N q : Nat} {l : List UInt8} {c : UInt8} {ps : List (Nat × UInt8)}
theorem Wt.of_hol (h : Hol x N 0 l) (ho : x.Ok) : Wt x N l [] := by
  have hw0 : x.wait = [] := List.eq_nil_of_length_eq_zero h.wait
  refine ⟨h.n, h.gone, hw0, h.len, fun j hj => ?_, ho⟩
  rw [← h.look j hj]
  show _ = (Dv.lastW x.wait j).getD _
  rw [hw0]
  rfl
theorem Wt.has (h : Wt x N l ps) (hq : q < N) : x.has (q : Int) := ⟨by omega, by rw [h.n]; omega⟩
theorem Wt.writeX (h : Wt x N l ps) (hq : q < N) (c : UInt8) : x.writeX (q : Int) (full c) = 0 := Dv.writeX_yes h.gone (h.has hq) (full_length c)
theorem Wt.write (h : Wt x N l ps) (hq : q < N) (c : UInt8) : Wt (x.write (q : Int) (full c)) N l (ps ++ [(q, c)]) := by
  have ho := h.ok.write (q : Int) (full c)
  have hw := Dv.write_yes h.gone (h.has hq) (full_length c)
  rw [hw] at ho ⊢
  refine ⟨h.n, h.gone, ?_, h.len, h.st, ho⟩
  show x.wait ++ [((q : Int).toNat, full c)] = _
  rw [h.wait, List.map_append, show ((q : Int)).toNat = q from by omega]
  rfl
theorem Wt.waits (h : Wt x N l ps) : x.wait.length = ps.length := by rw [h.wait, List.length_map]
/-- Behind the crash each sector is what one of the writes to it said, or what was stored. -/
theorem Wt.crash (h : Wt x N l ps) (ks : List Bool) : ∃ l', Hol (x.crash ks) N 0 l' ∧ ∀ j, j < N → l'.getD j 0 = l.getD j 0 ∨ (j, l'.getD j 0) ∈ ps := by
  have each : ∀ j, j < N → ∃ u, (x.crash ks).look j = full u ∧ (u = l.getD j 0 ∨ (j, u) ∈ ps) := by
    intro j hj
    rw [Dv.crash_look h.ok h.gone ks (by rw [h.n]; exact hj)]
    cases hq : Dv.lastW (Dv.kept x.wait ks) j with
    | none => exact ⟨_, h.st j hj, Or.inl rfl⟩
    | some b =>
      have hm := Dv.kept_mem (Dv.lastW_mem hq)
      rw [h.wait] at hm
      obtain ⟨p, hp, he⟩ := List.mem_map.mp hm
      injection he with h1 h2
      exact ⟨p.2, h2.symm, Or.inr (by rw [← h1]; exact hp)⟩
  have ch : ∃ y : Nat → UInt8, ∀ j, j < N → (x.crash ks).look j = full (y j) ∧ (y j = l.getD j 0 ∨ (j, y j) ∈ ps) := by
    refine ⟨fun j => if hj : j < N then (each j hj).choose else 0, fun j hj => ?_⟩
    simp only [dif_pos hj]
    exact (each j hj).choose_spec
  obtain ⟨y, hy⟩ := ch
  have hg : ∀ j, j < N → ((List.range N).map y).getD j 0 = y j := fun j hj => by simp [hj]
  refine ⟨(List.range N).map y, ⟨by rw [Dv.crash_n]; exact h.n, by rw [Dv.crash_gone]; exact h.gone, rfl, by simp, fun j hj => ?_⟩, fun j hj => ?_⟩
  · rw [hg j hj]
    exact (hy j hj).1
  · rw [hg j hj]
    exact (hy j hj).2
/-- The first k of the puts, drawn in. -/
def pt9 (N : Nat) (its : List (Int × UInt8)) (k : Nat) : List (Nat × UInt8) := (its.take k).map fun x => (cl9 N x.1, x.2)
theorem pt9_len (N : Nat) (its : List (Int × UInt8)) {k : Nat} (h : k ≤ its.length) : (pt9 N its k).length = k := by simp [pt9]; omega
theorem pt9_succ (N : Nat) {its : List (Int × UInt8)} {k : Nat} {z : Int} {c : UInt8} (h : its[k]? = some (z, c)) : pt9 N its (k + 1) = pt9 N its k ++ [(cl9 N z, c)] := by
  unfold pt9
  rw [List.take_add_one, h, List.map_append]
  rfl
/-- What the law finds of the writes that waited: does one of the first k say b at j? -/
def said9 (N : Nat) (its : List (Int × UInt8)) (j : Nat) (u b : UInt8) (k : Nat) : Bool := decide (b = u) || (pt9 N its k).any fun p => decide (p = (j, b))
theorem said9_zero (N : Nat) (its : List (Int × UInt8)) (j : Nat) (u b : UInt8) : said9 N its j u b 0 = decide (b = u) := by simp [said9, pt9]
theorem said9_succ (N : Nat) {its : List (Int × UInt8)} (j : Nat) (u b : UInt8) {k : Nat} {z : Int} {c : UInt8} (h : its[k]? = some (z, c)) : said9 N its j u b (k + 1) = (said9 N its j u b k || (decide (cl9 N z = j) && decide (c = b))) := by
  unfold said9
  rw [pt9_succ N h, List.any_append, Bool.or_assoc]
  congr 2
  simp [Prod.ext_iff]
theorem said9_all (N : Nat) (its : List (Int × UInt8)) (j : Nat) (u b : UInt8) (h : b = u ∨ (j, b) ∈ pt9 N its its.length) : said9 N its j u b its.length = true := by
  unfold said9
  rcases h with h | h
  · rw [decide_eq_true h, Bool.true_or]
  · rw [List.any_eq_true.mpr ⟨_, h, by simp⟩, Bool.or_true]
end
end Go.Proofs.Ytmlmlmlbdjhfhaa

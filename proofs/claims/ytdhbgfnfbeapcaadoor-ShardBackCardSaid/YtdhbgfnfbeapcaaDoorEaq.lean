/-
  append(b, make([]byte, k)...), which is one call with a number; a whole shard loaded from a variable. Condition: fewer than a million bytes.
-/
import Derived.Test.YtdhbgfnfbeapcaaDoorEap
namespace Go.Proofs.YtdhbgfnfbeapcaaDoor
open Go.RowKit Go.Proofs
set_option linter.unusedVariables false
set_option linter.unusedSimpArgs false

theorem nought_cells (k : Nat) : ((bstr (List.replicate k 0)).extract 0 k).data.map (fun b => Value.int .u8 b.toNat) = Builtin.zeroCells #[.int .u8 0] k := by
  apply Array.ext'
  have e1 : (bstr (List.replicate k 0)).extract 0 k = bstr (List.replicate k 0) := by
    apply ByteArray.ext
    simp [bstr]
  rw [e1, Array.toList_map, bstr_data, List.map_replicate]
  simp only [Builtin.zeroCells, Array.toList_map, Array.toList_range]
  apply List.ext_getElem
  · simp
  · intro j h1 h2
    simp [Nat.mod_one]
set_option maxRecDepth 20000 in
/-- So many noughts appended are the noughts of a text appended. -/
theorem append_noughts {P : Program} {t ts ti ty e : TypeId} {i : TypeInfo} (ht : P.underlying t = some (.slice e)) (hti : P.underlying ti = some (.int .i64)) (hts : P.underlying ts = some .string) (hi : P.info? e = some i) (hz : i.zero = some (.int .u8 0)) (hsize : i.size = 1) (hby : i.bytes = 1)
    (A : Option Addr) (n c k : Nat) (hk0 : 0 < k) (hk : k ≤ 1000000) (hn : n ≤ 1000000) (w : World) :
    (Builtin.append_ #[t, ti] ty #[.slice A n c, .int .i64 (k : Int)]).run P w = (Builtin.append_ #[t, ts] ty #[.slice A n c, .string (bstr (List.replicate k 0))]).run P w := by
  have hw : IntKind.i64.wrap (k : Int) = (k : Int) := by rw [IntKind.wrap_i64]; omega
  have h1 : ¬ (k : Int) < 0 := by omega
  have h2 : ¬ (k : Int) > 281474976710656 := by omega
  have h2' : ¬ (281474976710656 : Int) < (k : Int) := by omega
  have h3 : ¬ (9223372036854775807 < ((n : Int) + (k : Int))) := by omega
  have h4 : k ≠ 0 := by omega
  have hsz : (bstr (List.replicate k 0)).size = k := by rw [bstr_size, List.length_replicate]
  have hc := nought_cells k
  have hfit : ¬ (281474976710656 < Builtin.nextslicecap (n + k) c) ∨ n + k ≤ c := by
    rcases Nat.lt_or_ge c (n + k) with h | h
    · left
      have := growslice_fits (bytes := 1) (need := n + k) (old := c) h (by omega)
      omega
    · exact .inr h
  have hfc : ∀ w' : World, (Builtin.firstCells 1 k (.string (bstr (List.replicate k 0)))).run P w' = .ok (Builtin.zeroCells #[.int .u8 0] k) w' := fun w' => by
    rw [← hc]; rfl
  by_cases hroom : n + k ≤ c
  · simp [Builtin.append_, run_underlying ht, run_underlying hti, run_underlying hts, sizeOf, typeInfo, zeroValue, hi, hz, hsize, hby, asInt, asIntOf, hw, h1, h2, h2', h4, Builtin.lenOf, hsz, hroom, hfc, Value.cells]
  · have hf := hfit.resolve_right hroom
    simp [Builtin.append_, run_underlying ht, run_underlying hti, run_underlying hts, sizeOf, typeInfo, zeroValue, hi, hz, hsize, hby, asInt, asIntOf, hw, h1, h2, h2', h3, h4, Builtin.lenOf, hsz, hroom, hf, hfc, Value.cells]
theorem wpList_append_nb {w : World} {B n c : Nat} {A : Option Addr} {xs : List Value} {ops : Array Oper} {rest : List Oper} {o : Oper} {a : Act} {Q : Exit → Act → World → Prop} (hgd : o.guard = none) (s x : Operand)
    (ho : o.op = .call { callee := .builtin .append, args := #[s, x], argTypes := #[27, 3] })
    (hv : a.eval s = .slice A n c) (h : Own w B 5 1 A n c xs) (hB : B ≤ w.heap.size) (k : Nat) (z : List UInt8) (hz : z = List.replicate k 0) (hx : a.eval x = .int .i64 (k : Int)) (hk0 : 0 < k) (hk1 : k ≤ 1000000) (hn : n ≤ 1000000)
    (hk : ∀ A' c' w', Own w' B 5 1 A' (n + k) c' (xs ++ cells z) → Below B w w' → wpList Tryd.prog ops Q rest (a.put o.dst (.slice A' (n + k) c')) w') : wpList Tryd.prog ops Q (o :: rest) a w := by
  subst hz
  obtain ⟨i0, hi, hz0, hz1, hz2⟩ := info_parts info_u8
  have hs := Src.ofString (P := Tryd.prog) w Tryd.underlying9 (bstr (List.replicate k 0))
  have hsz : (bstr (List.replicate k 0)).size = k := by rw [bstr_size, List.length_replicate]
  rw [hsz] at hs
  obtain ⟨A', c', w', hr, h2, h3⟩ := run_append_any (P := Tryd.prog) 27 9 o.type i0 (.int .u8 0) 1 Tryd.underlying27 hi hz0 hz1 hz2 rfl (by decide) h hB (.string (bstr (List.replicate k 0))) k (cells (bstr (List.replicate k 0)).data.toList) hs (by unfold maxLen; omega) (by omega)
  rw [← append_noughts (ti := 3) Tryd.underlying27 Tryd.underlying3 Tryd.underlying9 hi hz0 hz1 hz2 A n c k hk0 hk1 hn w] at hr
  rw [bstr_data] at h2
  refine wpList_plain hgd fun _ hK => ?_
  unfold Oper.wp execOp
  simp only [ho, resolve, invoke, builtin, Sem.run_bind, Sem.run_pure, Result.andThen_ok, List.map_toArray, List.map_cons, List.map_nil, hv, hx, hr]
  exact hK _ _ (hk A' c' w' h2 h3)
/-- A whole shard is loaded. -/
theorem wpList_load_sh {ops : Array Oper} {rest : List Oper} {o : Oper} {a : Act} {w : World} {Q : Exit → Act → World → Prop} (hgd : o.guard = none) (x : Operand) (ho : o.op = .load 26 x) (b : Nat) (s : Sh)
    (hx : a.eval x = .pointer (some ⟨b, 0, none⟩)) (h : ShB w b s) (hk : wpList Tryd.prog ops Q rest (a.put o.dst (.agg s.cs.toArray)) w) : wpList Tryd.prog ops Q (o :: rest) a w :=
  wpList_load_row hgd _ x ho b hx _ s.cs.toArray (0, 0) _ h Tryd.underlying26 rfl (size_shard_a s) hk
/-- .. behind a guard that says yes. -/
theorem wpList_load_shg {ops : Array Oper} {rest : List Oper} {o : Oper} {a : Act} {w : World} {Q : Exit → Act → World → Prop} (hgd : Region.wanted o (yielded ops a.tmps) = true) (x : Operand) (ho : o.op = .load 26 x) (b : Nat) (s : Sh)
    (hx : a.eval x = .pointer (some ⟨b, 0, none⟩)) (h : ShB w b s) (hk : wpList Tryd.prog ops Q rest (a.put o.dst (.agg s.cs.toArray)) w) : wpList Tryd.prog ops Q (o :: rest) a w := by
  unfold wpList
  rw [if_pos hgd]
  exact .inl (wp_load_row _ x ho b hx _ s.cs.toArray (0, 0) _ h Tryd.underlying26 rfl (size_shard_a s) hk)
/-- One operation whose guard says yes, by what it answers. -/
theorem wpList_step11 {P : Program} {ops : Array Oper} {rest : List Oper} {o : Oper} {a : Act} {w : World} {Q : Exit → Act → World → Prop} (hgd : Region.wanted o (yielded ops a.tmps) = true) (v : Value) (w' : World) (hr : (execOp a.eval o).run P w = .ok (.value v) w') (hk : wpList P ops Q rest (a.put o.dst v) w') : wpList P ops Q (o :: rest) a w := by
  unfold wpList
  rw [if_pos hgd]
  left
  unfold Oper.wp
  rw [hr]
  exact hk
theorem step_build0 {ρ : Operand → Value} {o : Oper} {w : World} (ho : o.op = .build 26 #[]) : (execOp ρ o).run Tryd.prog w = .ok (.value (.agg (Sh.cs Sh.zero).toArray)) w := by
  have h := build_zero w
  unfold execOp
  simp [ho, h, Result.andThen]
theorem eqg_shard : Tryd.prog.eqGuardType Tryd.prog.depth 26 = false := by kernel_rfl
theorem step_eqlSh {ρ : Operand → Value} {o : Oper} {x y : Operand} {w : World} {s t : Sh} {T : TypeId} (ho : o.op = .binOp .eql 26 x y T) (hx : ρ x = .agg s.cs.toArray) (hy : ρ y = .agg t.cs.toArray) : (execOp ρ o).run Tryd.prog w = .ok (.value (.bool (s.same t))) w := by
  have h := eql_shard w s t
  have g := fun op => run_eqGuard_agg (P := Tryd.prog) w op 26 x y s.cs.toArray t.cs.toArray eqg_shard
  unfold execOp
  simp [ho, hx, hy, h, g, Result.andThen]
theorem step_neqSh {ρ : Operand → Value} {o : Oper} {x y : Operand} {w : World} {s t : Sh} {T : TypeId} (ho : o.op = .binOp .neq 26 x y T) (hx : ρ x = .agg s.cs.toArray) (hy : ρ y = .agg t.cs.toArray) : (execOp ρ o).run Tryd.prog w = .ok (.value (.bool (!(s.same t)))) w := by
  have h := neq_shard w s t
  have g := fun op => run_eqGuard_agg (P := Tryd.prog) w op 26 x y s.cs.toArray t.cs.toArray eqg_shard
  unfold execOp
  simp [ho, hx, hy, h, g, Result.andThen]
theorem byte_at (m : Nat) (i : Nat) (hi : i < 4) : (m : Int) / 2 ^ (8 * i) % 256 = (((le 4 m).getD i 0).toNat : Int) := by rw [le_byte_at, le_getD m 4 i hi]
end Go.Proofs.YtdhbgfnfbeapcaaDoor

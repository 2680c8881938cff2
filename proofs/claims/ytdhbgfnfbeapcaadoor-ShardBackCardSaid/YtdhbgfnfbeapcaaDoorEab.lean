/-
  Shards as the program's values: built, boxed, loaded, held against each other. Package shard's known, Is, Gen, Epoch and the document's Is, Gen. No condition but bounds.
-/
import Derived.Test.YtdhbgfnfbeapcaaDoorEaa
import Derived.Stop.BytesEq
import Derived.Great.BuildSlice
namespace Go.Proofs.YtdhbgfnfbeapcaaDoor
open Go.RowKit Go.Proofs
set_option linter.unusedVariables false

/-- Field by field, told by what each is. -/
def eqTrip (d : Nat) (xs ys : Array Value) : List (Bool × TypeId × Nat) → Sem Bool
  | [] => pure true
  | (b, t, o) :: fs =>
    if b = true then do
      let x ← part t xs o
      let y ← part t ys o
      let r ← Op.equalIn d t x y
      if (!r) = true then pure false else eqTrip d xs ys fs
    else eqTrip d xs ys fs
theorem eqFields_trip (d : Nat) (xs ys : Array Value) : ∀ fs : List Field, Op.eqFields d xs ys fs = eqTrip d xs ys (fs.map fun f => (decide (f.name ≠ "_"), f.type, f.offset))
  | [] => rfl
  | f :: fs => by
    rw [Op.eqFields, List.map_cons, eqTrip, eqFields_trip d xs ys fs]
    by_cases h : f.name ≠ "_"
    · rw [if_pos h, if_pos (decide_eq_true h)]
    · rw [if_neg h, if_neg (by simpa using h)]
section
variable {P : Program} (w : World)
theorem part_int {t : TypeId} {k : IntKind} (h : P.underlying t = some (.int k)) (xs : Array Value) (o : Nat) (u : Value) (hu : xs[o]? = some u) : (part t xs o).run P w = .ok u w := by
  simp [part, isAgg, run_underlying h, hu]
theorem part_arr {t e : TypeId} {n : Nat} (h : P.underlying t = some (.array n e)) (hs : ∀ w, (sizeOf t).run P w = .ok n w) (xs : Array Value) (o : Nat) : (part t xs o).run P w = .ok (.agg (xs.extract o (o + n))) w := by
  simp [part, isAgg, run_underlying h, hs]
theorem eqTrip_int {d : Nat} {t : TypeId} {k k1 : IntKind} (h : P.underlying t = some (.int k)) {xs ys : Array Value} {o : Nat} {a b : Int} (hx : xs[o]? = some (.int k1 a)) (hy : ys[o]? = some (.int k1 b)) (fs : List (Bool × TypeId × Nat)) {r : Bool}
    (hr : (eqTrip (d + 1) xs ys fs).run P w = .ok r w) : (eqTrip (d + 1) xs ys ((true, t, o) :: fs)).run P w = .ok (a == b && r) w := by
  have he : (Op.equalIn (d + 1) t (.int k1 a) (.int k1 b)).run P w = .ok (a == b) w := by simp [Op.equalIn, run_underlying h]
  simp only [eqTrip, if_pos, Sem.run_bind, part_int w h xs o _ hx, part_int w h ys o _ hy, he, Result.andThen_ok]
  cases (a == b)
  · simp
  · simp [hr]
theorem eqTrip_arr {d : Nat} {t e : TypeId} {n : Nat} (h : P.underlying t = some (.array n e)) (hs : ∀ w, (sizeOf t).run P w = .ok n w) {xs ys X Y : Array Value} {o : Nat} (hx : xs.extract o (o + n) = X) (hy : ys.extract o (o + n) = Y) {r : Bool}
    (hr : (Op.equalIn d t (.agg X) (.agg Y)).run P w = .ok r w) : (eqTrip d xs ys [(true, t, o)]).run P w = .ok r w := by
  have px := part_arr (P := P) w h hs xs o
  have py := part_arr (P := P) w h hs ys o
  rw [hx] at px
  rw [hy] at py
  simp only [eqTrip, if_pos, Sem.run_bind, px, py, hr, Result.andThen_ok]
  cases r <;> simp
end
theorem size_b44 (w : World) : (sizeOf 24).run Tryd.prog w = .ok 44 w := by kernel_rfl
theorem size_b1 (w : World) : (sizeOf 5).run Tryd.prog w = .ok 1 w := by kernel_rfl
theorem flds_shard : (Tryd.prog.fieldsOf 26).toList.map (fun f => (decide (f.name ≠ "_"), f.type, f.offset)) = [(true, 5, 0), (true, 5, 1), (true, 22, 2), (true, 23, 3), (true, 22, 4), (true, 24, 5)] := by kernel_rfl
theorem und_shard : Tryd.prog.underlying 26 = some (.struct (Tryd.prog.fieldsOf 26)) := by kernel_rfl
theorem stood_shard : Tryd.prog.stoodInHeld 26 = false := by kernel_rfl
/-- Are two shards one? -/
def Sh.same (s t : Sh) : Bool := (s.kind.toNat : Int) == (t.kind.toNat : Int) && ((s.idx.toNat : Int) == (t.idx.toNat : Int) && ((s.place : Int) == (t.place : Int) && ((s.gen : Int) == (t.gen : Int) && ((s.size : Int) == (t.size : Int) && (pad44 s.body == pad44 t.body)))))
theorem Sh.same_refl (s : Sh) : s.same s = true := by simp [Sh.same]
theorem Sh.same_eq {s t : Sh} (hs : s.Ok) (ht : t.Ok) (h : s.same t = true) : s = t := by
  simp only [Sh.same, Bool.and_eq_true, beq_iff_eq] at h
  rw [pad44_eq hs.body, pad44_eq ht.body] at h
  obtain ⟨h1, h2, h3, h4, h5, h6⟩ := h
  obtain ⟨k, i, p, g, z, b⟩ := s
  obtain ⟨k', i', p', g', z', b'⟩ := t
  dsimp only at h1 h2 h3 h4 h5 h6
  have e1 : k = k' := UInt8.toNat_inj.1 (by omega)
  have e2 : i = i' := UInt8.toNat_inj.1 (by omega)
  have e3 : p = p' := by omega
  have e4 : g = g' := by omega
  have e5 : z = z' := by omega
  have e6 : b = b' := h6
  subst e1 e2 e3 e4 e5 e6
  rfl
theorem cell_bv : Extern.Stop.cell = bv := by funext u; rfl
theorem Sh.cs_drop (s : Sh) : s.cs.drop 5 = cells (pad44 s.body) := by simp only [Sh.cs, List.drop_succ_cons, List.drop_zero]
theorem eq_shard_at (d : Nat) (w : World) (s t : Sh) : (Op.equalIn (d + 3) 26 (.agg s.cs.toArray) (.agg t.cs.toArray)).run Tryd.prog w = .ok (s.same t) w := by
  have hb : ∀ u : Sh, (u.cs.toArray.extract 5 (5 + 44)) = ((pad44 u.body).map Extern.Stop.cell).toArray := fun u => by
    rw [List.extract_toArray, List.extract_eq_take_drop, List.take_of_length_le (by rw [List.length_drop, Sh.cs_len]; omega), Sh.cs_drop, cells, cell_bv]
  have hlast := eqTrip_arr (P := Tryd.prog) (d := d + 2) w Tryd.underlying24 size_b44 (o := 5) (hb s) (hb t) (run_equalIn_bytes (P := Tryd.prog) w d 24 5 44 Tryd.underlying24 Tryd.underlying5 size_b1 (pad44 s.body) (pad44 t.body) (pad44_len _) (pad44_len _))
  have h0 := run_equalIn_struct (P := Tryd.prog) w (d + 2) 26 s.cs.toArray t.cs.toArray und_shard stood_shard
  rw [eqFields_trip, flds_shard] at h0
  refine h0.trans ?_
  have ck : ∀ u : Sh, u.cs.toArray[0]? = some (.int .u8 (u.kind.toNat : Int)) := fun u => by rw [List.getElem?_toArray, Sh.cs]; rfl
  have ci : ∀ u : Sh, u.cs.toArray[1]? = some (.int .u8 (u.idx.toNat : Int)) := fun u => by rw [List.getElem?_toArray, Sh.cs]; rfl
  have cp : ∀ u : Sh, u.cs.toArray[2]? = some (.int .u16 (u.place : Int)) := fun u => by rw [List.getElem?_toArray, Sh.cs]; rfl
  have cg : ∀ u : Sh, u.cs.toArray[3]? = some (.int .u64 (u.gen : Int)) := fun u => by rw [List.getElem?_toArray, Sh.cs]; rfl
  have cz : ∀ u : Sh, u.cs.toArray[4]? = some (.int .u16 (u.size : Int)) := fun u => by rw [List.getElem?_toArray, Sh.cs]; rfl
  exact eqTrip_int (P := Tryd.prog) (d := d + 1) w Tryd.underlying5 (ck s) (ck t) _ (eqTrip_int w Tryd.underlying5 (ci s) (ci t) _ (eqTrip_int w Tryd.underlying22 (cp s) (cp t) _ (eqTrip_int w Tryd.underlying23 (cg s) (cg t) _ (eqTrip_int w Tryd.underlying22 (cz s) (cz t) _ hlast))))
theorem eq_shard_in (w : World) (s t : Sh) : (Op.equalIn 10000 26 (.agg s.cs.toArray) (.agg t.cs.toArray)).run Tryd.prog w = .ok (s.same t) w := eq_shard_at 9997 w s t
theorem eql_shard (w : World) (s t : Sh) : (binOp .eql 26 (.agg s.cs.toArray) (.agg t.cs.toArray)).run Tryd.prog w = .ok (.bool (s.same t)) w := by
  rw [run_eql_struct, eq_shard_in]; rfl
theorem neq_shard (w : World) (s t : Sh) : (binOp .neq 26 (.agg s.cs.toArray) (.agg t.cs.toArray)).run Tryd.prog w = .ok (.bool (!(s.same t))) w := by
  rw [run_neq_struct, eq_shard_in]; rfl

/-- A shard in a variable. -/
def ShB (w : World) (b : Nat) (s : Sh) : Prop := w.heap[b]? = some (.cells s.cs.toArray 26 (0, 0))
section
variable {w w' : World} {b : Nat} {s : Sh}
theorem ShB.k (h : ShB w b s) : w.cell? ⟨b, 0, none⟩ = some (.int .u8 (s.kind.toNat : Int)) := by rw [cell_of_row _ _ _ _ _ _ h]; rfl
theorem ShB.i (h : ShB w b s) : w.cell? ⟨b, 1, none⟩ = some (.int .u8 (s.idx.toNat : Int)) := by rw [cell_of_row _ _ _ _ _ _ h]; rfl
theorem ShB.p (h : ShB w b s) : w.cell? ⟨b, 2, none⟩ = some (.int .u16 (s.place : Int)) := by rw [cell_of_row _ _ _ _ _ _ h]; rfl
theorem ShB.g (h : ShB w b s) : w.cell? ⟨b, 3, none⟩ = some (.int .u64 (s.gen : Int)) := by rw [cell_of_row _ _ _ _ _ _ h]; rfl
theorem ShB.z (h : ShB w b s) : w.cell? ⟨b, 4, none⟩ = some (.int .u16 (s.size : Int)) := by rw [cell_of_row _ _ _ _ _ _ h]; rfl
theorem ShB.byte (h : ShB w b s) {j : Nat} (hj : j < 44) : w.cell? ⟨b, 5 + j, none⟩ = some (bv (s.body.getD j 0)) := by
  rw [cell_of_row _ _ _ _ _ _ h, List.getElem?_toArray, Sh.cs, Nat.add_comm 5 j]
  simp only [List.getElem?_cons_succ]
  rw [cells_get _ _ (by rw [pad44_len]; exact hj)]
  simp [pad44]
theorem ShB.text (h : ShB w b s) : w.rangeAt b 5 (cells (pad44 s.body)) := fun j v hv => by
  rw [cell_of_row _ _ _ _ _ _ h, List.getElem?_toArray, Sh.cs, Nat.add_comm 5 j]
  simpa only [List.getElem?_cons_succ] using hv
theorem ShB.all (h : ShB w b s) : w.rangeAt b 0 s.cs := fun j v hv => by
  rw [cell_of_row _ _ _ _ _ _ h, List.getElem?_toArray, Nat.zero_add]; exact hv
theorem ShB.free (h : ShB w b s) (j : Nat) : w.frozen? ⟨b, j, none⟩ = false := frozen_of_row _ _ _ _ _ h
theorem ShB.lt (h : ShB w b s) : b < w.heap.size := block_lt h
theorem ShB.later (h : ShB w b s) (hb : Below w.heap.size w w') : ShB w' b s := (hb.block _ (block_lt h)).trans h
theorem ShB.below (h : ShB w b s) {B : Nat} (hb : Below B w w') (hB : b < B) : ShB w' b s := (hb.block _ hB).trans h
theorem ShB.fr {S : Nat → Prop} (h : ShB w b s) (hf : Fr S w w') (hb : ¬ S b) : ShB w' b s := hf.row_some h hb
theorem ShB.new (w : World) (s : Sh) : ShB (w.alloc (.cells s.cs.toArray 26)) w.heap.size s := heap_alloc_new w _
theorem ShB.drew (h : ShB w b s) : ShB w.drew b s := h
end
theorem size_shard (s : Sh) : (Tryd.prog.info? 26).map (·.size) = some s.cs.length := by
  rw [Sh.cs_len]; kernel_rfl
theorem size_shard_a (s : Sh) : (Tryd.prog.info? 26).map (·.size) = some s.cs.toArray.size := by
  rw [List.size_toArray]; exact size_shard s
theorem size_b44l (l : List UInt8) : (Tryd.prog.info? 24).map (·.size) = some (cells (pad44 l)).length := by
  rw [cells_length, pad44_len]; kernel_rfl
theorem built_zero : Tryd.prog.built 26 [] = some (Sh.cs Sh.zero).toArray := by kernel_rfl
theorem build_zero (w : World) : (Instr.build 26 #[]).run Tryd.prog w = .ok (.agg (Sh.cs Sh.zero).toArray) w := run_build w _ _ _ built_zero
theorem built_head (k i p g z : Int) : Tryd.prog.built 26 [(0, .int .u8 k), (1, .int .u8 i), (2, .int .u16 p), (3, .int .u64 g), (4, .int .u16 z)] = some (Value.int .u8 k :: .int .u8 i :: .int .u16 p :: .int .u64 g :: .int .u16 z :: cells (pad44 [])).toArray := by kernel_rfl
theorem info_shard : (Tryd.prog.info? 26).map (fun i => (i.zero, i.size)) = some (some (.agg (Sh.cs Sh.zero).toArray), 49) := by kernel_rfl
theorem zero_shard (w : World) : (zeroValue 26).run Tryd.prog w = .ok (.agg (Sh.cs Sh.zero).toArray) w := by kernel_rfl
theorem zero_b44 (w : World) : (zeroValue 24).run Tryd.prog w = .ok (.agg (cells (pad44 [])).toArray) w := by kernel_rfl
end Go.Proofs.YtdhbgfnfbeapcaaDoor

/-
  Shards and stripes' names as arguments: what they read as. No condition.
-/
import Derived.Test.YtdhbgfnfbeapcaaDoorOpi
import Derived.Test.YtdhbgfnfbeapcaaDoorEat
import Derived.Lib.SmallJoins
namespace Go.Proofs.YtdhbgfnfbeapcaaDoor
open Go.ChangeShapes Go.WideShapes Go.ChangeAt Go.RowKit Go.Proofs Go.Deep
set_option linter.unusedVariables false

theorem cells_u8a : Tryd.prog.cellsOf 5 = 1 := by kernel_rfl
theorem cells_u16a : Tryd.prog.cellsOf 22 = 1 := by kernel_rfl
theorem cells_u64a : Tryd.prog.cellsOf 23 = 1 := by kernel_rfl
theorem cells_inta : Tryd.prog.cellsOf 3 = 1 := by kernel_rfl
theorem cells_b44 : Tryd.prog.cellsOf 24 = 44 := by kernel_rfl
theorem cells_shard : Tryd.prog.cellsOf 26 = 49 := by kernel_rfl
theorem cells_ref : Tryd.prog.cellsOf 29 = 3 := by kernel_rfl
section
variable {H : Type} {enc : TypeId × Value → H} {w : World} {base : Nat} {held : Bool} {fuel : Nat}
set_option maxRecDepth 100000
/-- 44 bytes out of their cells. -/
theorem body_of {cs : List Value} {y : DataW H × List MemPlace} (h : DataW.trod enc Tryd.prog w base (fun _ => true) held fuel 24 cs = some y) : ∃ l : List UInt8, l.length = 44 ∧ cs = cells l := by
  obtain ⟨xs, m, _, _, hl, hxl, hf⟩ := DataW.trod_array Tryd.underlying24 h
  rw [cells_b44] at hl
  have hc : ∀ i, i < 44 → ∃ u : UInt8, cs[i]? = some (bv u) := fun i hi => by
    have h0 := hf i hi
    rw [cells_u8a, Nat.mul_one] at h0
    have hx : xs[i]? = some xs[i] := List.getElem?_eq_getElem (by omega)
    rw [hx] at h0
    obtain ⟨a, e, _, wa⟩ := DataW.trod_int Tryd.underlying5 h0
    have hb := bounds_u8 wa
    have hci : cs[i]? = some (.int .u8 a) := by
      have h1 : ((cs.drop i).take 1)[0]? = some (.int .u8 a) := by rw [e]; rfl
      rw [List.getElem?_take_of_lt (by decide), List.getElem?_drop, Nat.add_zero] at h1
      exact h1
    refine ⟨UInt8.ofNat a.toNat, hci.trans ?_⟩
    have q : ((UInt8.ofNat a.toNat).toNat : Int) = a := by rw [UInt8.toNat_ofNat']; omega
    rw [bv, q]
  refine ⟨cs.map (fun v => match v with | .int _ z => UInt8.ofNat z.toNat | _ => 0), by rw [List.length_map, hl], ?_⟩
  apply List.ext_getElem?
  intro i
  by_cases hi : i < 44
  · obtain ⟨u, hu⟩ := hc i hi
    rw [hu, cells, List.getElem?_map, List.getElem?_map, hu]
    simp [bv]
  · rw [List.getElem?_eq_none (by omega), List.getElem?_eq_none (by rw [cells_length, List.length_map]; omega)]
/-- A shard out of its 49 cells. -/
theorem shard_of {cs : List Value} {y : DataW H × List MemPlace} (h : DataW.trod enc Tryd.prog w base (fun _ => true) held fuel 26 cs = some y) : ∃ s : Sh, s.Ok ∧ cs = s.cs := by
  obtain ⟨xs, m, _, _, hl, hxl, hf⟩ := DataW.trod_struct Tryd.underlying26 h
  rw [cells_shard] at hl
  match cs, hl with
  | c0 :: c1 :: c2 :: c3 :: c4 :: rest, hl =>
    match xs, hxl with
    | [y0, y1, y2, y3, y4, y5], _ =>
      have h0 : DataW.trod enc Tryd.prog w base (fun _ => true) held m 5 (((c0 :: c1 :: c2 :: c3 :: c4 :: rest).drop 0).take (Tryd.prog.cellsOf 5)) = some y0 := hf 0 _ rfl
      have h1 : DataW.trod enc Tryd.prog w base (fun _ => true) held m 5 (((c0 :: c1 :: c2 :: c3 :: c4 :: rest).drop 1).take (Tryd.prog.cellsOf 5)) = some y1 := hf 1 _ rfl
      have h2 : DataW.trod enc Tryd.prog w base (fun _ => true) held m 22 (((c0 :: c1 :: c2 :: c3 :: c4 :: rest).drop 2).take (Tryd.prog.cellsOf 22)) = some y2 := hf 2 _ rfl
      have h3 : DataW.trod enc Tryd.prog w base (fun _ => true) held m 23 (((c0 :: c1 :: c2 :: c3 :: c4 :: rest).drop 3).take (Tryd.prog.cellsOf 23)) = some y3 := hf 3 _ rfl
      have h4 : DataW.trod enc Tryd.prog w base (fun _ => true) held m 22 (((c0 :: c1 :: c2 :: c3 :: c4 :: rest).drop 4).take (Tryd.prog.cellsOf 22)) = some y4 := hf 4 _ rfl
      have h5 : DataW.trod enc Tryd.prog w base (fun _ => true) held m 24 (((c0 :: c1 :: c2 :: c3 :: c4 :: rest).drop 5).take (Tryd.prog.cellsOf 24)) = some y5 := hf 5 _ rfl
      rw [cells_u8a] at h0 h1
      rw [cells_u16a] at h2 h4
      rw [cells_u64a] at h3
      rw [cells_b44] at h5
      have hr : rest.length = 44 := by simpa using hl
      have hrt : ((c0 :: c1 :: c2 :: c3 :: c4 :: rest).drop 5).take 44 = rest := by
        show rest.take 44 = rest
        exact List.take_of_length_le (by omega)
      rw [hrt] at h5
      obtain ⟨a0, e0, _, w0⟩ := DataW.trod_int Tryd.underlying5 (show DataW.trod enc Tryd.prog w base (fun _ => true) held m 5 [c0] = some y0 from h0)
      obtain ⟨a1, e1, _, w1⟩ := DataW.trod_int Tryd.underlying5 (show DataW.trod enc Tryd.prog w base (fun _ => true) held m 5 [c1] = some y1 from h1)
      obtain ⟨a2, e2, _, w2⟩ := DataW.trod_int Tryd.underlying22 (show DataW.trod enc Tryd.prog w base (fun _ => true) held m 22 [c2] = some y2 from h2)
      obtain ⟨a3, e3, _, w3⟩ := DataW.trod_int Tryd.underlying23 (show DataW.trod enc Tryd.prog w base (fun _ => true) held m 23 [c3] = some y3 from h3)
      obtain ⟨a4, e4, _, w4⟩ := DataW.trod_int Tryd.underlying22 (show DataW.trod enc Tryd.prog w base (fun _ => true) held m 22 [c4] = some y4 from h4)
      obtain ⟨l, hll, rfl⟩ := body_of h5
      injection e0 with e0
      injection e1 with e1
      injection e2 with e2
      injection e3 with e3
      injection e4 with e4
      subst e0 e1 e2 e3 e4
      have b0 := bounds_u8 w0
      have b1 := bounds_u8 w1
      have b2 := bounds_u16 w2
      have b3 := bounds_u64 w3
      have b4 := bounds_u16 w4
      refine ⟨⟨UInt8.ofNat a0.toNat, UInt8.ofNat a1.toNat, a2.toNat, a3.toNat, a4.toNat, l⟩, ⟨by show a2.toNat < _; omega, by show a3.toNat < _; omega, by show a4.toNat < _; omega, hll⟩, ?_⟩
      have q0 : ((UInt8.ofNat a0.toNat).toNat : Int) = a0 := by rw [UInt8.toNat_ofNat']; omega
      have q1 : ((UInt8.ofNat a1.toNat).toNat : Int) = a1 := by rw [UInt8.toNat_ofNat']; omega
      have q2 : ((a2.toNat : Nat) : Int) = a2 := by omega
      have q3 : ((a3.toNat : Nat) : Int) = a3 := by omega
      have q4 : ((a4.toNat : Nat) : Int) = a4 := by omega
      rw [Sh.cs, pad44_eq hll, q0, q1, q2, q3, q4]
theorem arg_shard {v : Value} {d : DataW H} {p : List MemPlace} {r : Reach} {b0 : Nat} (hv : Value.okWide Tryd.prog w r b0 26 v) (h : DataW.Trod enc Tryd.prog w base (fun _ => true) held 26 v d p) :
    ∃ s : Sh, s.Ok ∧ v = .agg s.cs.toArray := by
  obtain ⟨cs, rfl, _⟩ := okWide_struct Tryd.underlying26 hv
  obtain ⟨fuel, hf⟩ := h
  obtain ⟨s, hs, e⟩ := shard_of hf
  exact ⟨s, hs, by rw [← e]; simp [Value.cells]⟩
theorem arg_ref {v : Value} {d : DataW H} {p : List MemPlace} {r : Reach} {b0 : Nat} (hv : Value.okWide Tryd.prog w r b0 29 v) (h : DataW.Trod enc Tryd.prog w base (fun _ => true) held 29 v d p) :
    ∃ x : Rfv, v = .agg #[.int .u8 (x.k.toNat : Int), .int .i64 x.p, .int .u64 (x.g : Int)] := by
  obtain ⟨c0, c1, c2, y0, y1, y2, m, rfl, rfl, rfl, hy0, hy1, hy2⟩ := Go.Joins.open_agg3 Tryd.underlying29 (by kernel_rfl) cells_ref hv h
  obtain ⟨x, e0, _, wx⟩ := DataW.trod_int Tryd.underlying5 hy0
  obtain ⟨y, e1, _, wy⟩ := DataW.trod_int Tryd.underlying3 hy1
  obtain ⟨z, e2, _, wz⟩ := DataW.trod_int Tryd.underlying23 hy2
  injection e0 with e0
  injection e1 with e1
  injection e2 with e2
  subst e0; subst e1; subst e2
  have b0 := bounds_u8 wx
  have b2 := bounds_u64 wz
  refine ⟨⟨UInt8.ofNat x.toNat, y, z.toNat⟩, ?_⟩
  have q0 : ((UInt8.ofNat x.toNat).toNat : Int) = x := by rw [UInt8.toNat_ofNat']; omega
  have q2 : ((z.toNat : Nat) : Int) = z := by omega
  show _ = Value.agg #[.int .u8 ((UInt8.ofNat x.toNat).toNat : Int), .int .i64 y, .int .u64 ((z.toNat : Nat) : Int)]
  rw [q0, q2]
theorem arg_u64 {v : Value} {d : DataW H} {p : List MemPlace} {r : Reach} {b0 : Nat} (hv : Value.okWide Tryd.prog w r b0 23 v) (h : DataW.Trod enc Tryd.prog w base (fun _ => true) held 23 v d p) :
    ∃ x : Nat, v = .int .u64 (x : Int) ∧ x < 18446744073709551616 := by
  obtain ⟨z, rfl, rfl, rfl, w0⟩ := open_int Tryd.underlying23 hv h
  have := bounds_u64 w0
  exact ⟨z.toNat, by congr 1; omega, by omega⟩
/-- A word of 32 bits. -/
theorem arg_w32 {v : Value} {d : DataW H} {p : List MemPlace} {r : Reach} {b0 : Nat} (hv : Value.okWide Tryd.prog w r b0 45 v) (h : DataW.Trod enc Tryd.prog w base (fun _ => true) held 45 v d p) :
    ∃ x : W32, v = .int .u32 (x.toNat : Int) := by
  obtain ⟨x, rfl, hx⟩ := arg_u32 hv h
  exact ⟨BitVec.ofNat 32 x, by rw [BitVec.toNat_ofNat, Nat.mod_eq_of_lt (by omega)]⟩
end
end Go.Proofs.YtdhbgfnfbeapcaaDoor

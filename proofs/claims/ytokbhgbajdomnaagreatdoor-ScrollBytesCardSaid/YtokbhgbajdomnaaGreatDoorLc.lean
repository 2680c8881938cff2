/-
  What the statements of layer 11 ask at any rate: the page's examples, and a shard. Condition: the table reads as the row lists it ('Nt'). And what goes with it below the laws of layer 13. No condition but what each theorem says.
-/
import Derived.Test.YtokbhgbajdomnaaGreatDoorLb
set_option linter.unusedVariables false
set_option maxRecDepth 20000
set_option maxHeartbeats 1600000
namespace Go.Proofs.YtokbhgbajdomnaaGreatDoor
section
open Go.RowKit Go.Proofs
theorem wpList_store_shard {ops : Array Oper} {rest : List Oper} {o : Oper} {a : Act} {Q : Exit → Act → World → Prop} (hgd : o.guard = none) (x y : Operand) (ho : o.op = .store 230 x y) (w0 : World) (s : Sh)
  (hx : a.eval x = .pointer (some ⟨w0.heap.size, 0, none⟩)) (hy : a.eval y = .agg s.cs.toArray) (h : wpList Tryz.prog ops Q rest (a.put o.dst undef) (w0.alloc (.cells s.cs.toArray 230))) : wpList Tryz.prog ops Q (o :: rest) a (w0.alloc (.cells (Sh.cs Sh.zero).toArray 230)) :=
 wpList_store_new hgd _ x y ho w0 _ _ _ hx hy (size_shard_a s) (by rw [List.size_toArray, List.size_toArray, Sh.cs_len, Sh.cs_len]) (all_oneCell_toArray s.cs_one) h
end
section
theorem bw_ofNat_bit (n j : Nat) (hj : j < 8) : (bw (UInt8.ofNat n)).getLsbD j = n.testBit j := by
 rw [BitVec.getLsbD, bw_toNat, UInt8.toNat_ofNat', Nat.testBit_mod_two_pow, decide_eq_true hj, Bool.true_and]
theorem le_getD (n : Nat) : ∀ (k q : Nat), q < k → (le k n).getD q 0 = UInt8.ofNat (n / 256 ^ q)
 | 0, q, h => absurd h (by omega)
 | k + 1, q, h => by
  rw [le, List.getD_eq_getElem?_getD]
  by_cases hq : q < k
  ·rw [List.getElem?_append_left (by rw [le_length]; exact hq), ← List.getD_eq_getElem?_getD]
   exact le_getD n k q hq
  ·obtain rfl : q = k := by omega
   rw [List.getElem?_append_right (by rw [le_length]; exact Nat.le_refl _), le_length]
   simp
theorem bitAt_word (c : W32) (x : Nat) (hx : x < 32) : bitAt (le 4 c.toNat) x = c.getLsbD x := by
 have h : x = 8 * (x / 8) + x % 8 := by omega
 rw [bitAt, le_getD _ 4 _ (by omega), bw_ofNat_bit _ _ (by omega), show (256 : Nat) = 2 ^ 8 from rfl, ← Nat.pow_mul, ← Nat.shiftRight_eq_div_pow, Nat.testBit_shiftRight, ← h]
 rfl
theorem more_own (c : W32) : more c (le 4 c.toNat) = ~~~ rep st 32 (BitVec.allOnes 32) := by
 have a1 := reg_bits (~~~ c) (le 4 c.toNat) 4 (by rw [le_length]; exact Nat.le_refl _)
 rw [List.take_of_length_le (by rw [le_length]; exact Nat.le_refl _)] at a1
 have a2 := regb_word (f := bitAt (le 4 c.toNat)) c 0 (~~~ c) 32 (fun j hj => by rw [Nat.zero_add]; exact bitAt_word c j hj)
 have a3 := rb_st c (~~~ c) 32
 have b3 : c >>> 32 = 0 := by
  apply BitVec.eq_of_toNat_eq
  rw [BitVec.toNat_ushiftRight, Nat.shiftRight_eq_div_pow, Nat.div_eq_of_lt c.isLt]
  rfl
 rw [b3, x0] at a3
 have a4 : (~~~ c) ^^^ c = BitVec.allOnes 32 := by
  rw [not_eq, BitVec.xor_comm c, BitVec.xor_assoc, BitVec.xor_self, BitVec.xor_zero]
 rw [a4] at a3
 rw [more, ← a1]
 have a5 : regb (bitAt (le 4 c.toNat)) (8 * 4) (~~~ c) = rb c 32 (regb (bitAt (le 4 c.toNat)) 0 (~~~ c)) := a2
 rw [a5]
 congr 1
theorem closed_more (l : List UInt8) : more 0 (closed l) = ~~~ rep st 32 (BitVec.allOnes 32) := by
 rw [closed, ← more_more]
 exact more_own _
theorem chg_flip (l : List UInt8) (k : Nat) (mask : W32) (h : k + 4 ≤ l.length) : Flip l (chg l k (le 4 mask.toNat) 4) (8 * k) mask 32 := by
 refine ⟨chg_length _ _ _ _, fun x hx => ?_⟩
 have hxl : x / 8 < l.length := by omega
 have e0 : (chg l k (le 4 mask.toNat) 4).getD (x / 8) 0 = if k ≤ x / 8 ∧ x / 8 < k + 4 then l.getD (x / 8) 0 ^^^ (le 4 mask.toNat).getD (x / 8 - k) 0 else l.getD (x / 8) 0 := by
  rw [List.getD_eq_getElem?_getD, List.getD_eq_getElem?_getD, chg, List.getElem?_mapIdx, List.getElem?_eq_getElem hxl]
  rfl
 by_cases hq : k ≤ x / 8 ∧ x / 8 < k + 4
 ·rw [if_pos hq] at e0
  have hd : decide (8 * k ≤ x ∧ x < 8 * k + 32) = true := decide_eq_true (by omega)
  have hb := bitAt_word mask (x - 8 * k) (by omega)
  rw [bitAt, show (x - 8 * k) / 8 = x / 8 - k by omega, show (x - 8 * k) % 8 = x % 8 by omega] at hb
  rw [bitAt, e0, bw_xor, BitVec.getLsbD_xor, hb, hd, Bool.true_and]
  rfl
 ·rw [if_neg hq] at e0
  have hd : decide (8 * k ≤ x ∧ x < 8 * k + 32) = false := decide_eq_false (by omega)
  rw [bitAt, e0, hd, Bool.false_and, Bool.xor_false]
  rfl
theorem burst_err {l : List UInt8} (hl : l.length = 60) {k : Nat} (hk : k + 4 ≤ 64) {mask : W32} (hm : mask ≠ 0) : getE (chg (closed l) k (le 4 mask.toNat) 4) = 4 := by
 have hL : (chg (closed l) k (le 4 mask.toNat) 4).length = 64 := by rw [chg_length, closed_len, hl]
 refine getE_sum hL fun hs => ?_
 have hc := (closed_iff hL).2 hs
 have hf := (chg_flip (closed l) k mask (by rw [closed_len, hl]; exact hk)).sums (by rw [closed_len, hl]; omega) hm
 refine hf ?_
 rw [closed_more, ← hc, closed_more]
end
section
open Go.RowKit Go.Proofs
set_option linter.unusedSimpArgs false
theorem nought_cells (k : Nat) : ((bstr (List.replicate k 0)).extract 0 k).data.map (fun b => Value.int .u8 b.toNat) = Builtin.zeroCells #[.int .u8 0] k := by
 apply Array.ext'
 have e1 : (bstr (List.replicate k 0)).extract 0 k = bstr (List.replicate k 0) := by
  apply ByteArray.ext
  simp [bstr]
 rw [e1, Array.toList_map, bstr_data, List.map_replicate]
 simp only [Builtin.zeroCells, Array.toList_map, Array.toList_range]
 apply List.ext_getElem
 ·simp
 ·intro j h1 h2
  simp [Nat.mod_one]
theorem append_noughts {P : Program} {t ts ti ty e : TypeId} {i : TypeInfo} (ht : P.underlying t = some (.slice e)) (hti : P.underlying ti = some (.int .i64)) (hts : P.underlying ts = some .string) (hi : P.info? e = some i) (hz : i.zero = some (.int .u8 0)) (hsize : i.size = 1) (hby : i.bytes = 1)
  (A : Option Addr) (n c k : Nat) (hk0 : 0 < k) (hk : k ≤ 1000000) (hn : n ≤ 1000000) (w : World) :
  (Builtin.append_ #[t, ti] ty #[.slice A n c, .int .i64 (k : Int)]).run P w = (Builtin.append_ #[t, ts] ty #[.slice A n c, .string (bstr (List.replicate k 0))]).run P w := by
 have hw : IntKind.i64.wrap (k : Int) = (k : Int) := by rw [IntKind.wrap_i64]; omega
 have h1 : ¬ (k : Int) < 0 := by omega
 have h2 : ¬ (k : Int) > 281474976710656 := by omega
 have h2' : ¬ (281474976710656 : Int) < (k : Int) := by omega
 have h3 : ¬ (9223372036854775807 < ((n : Int) + (k : Int))) := by omega
 have h4 : k ≠ 0 := by omega
 have hsz : (bstr (List.replicate k 0)).size = k := by rw [bstr_size, List.length_replicate]
 have hc := nought_cells k
 have hfit : ¬ (281474976710656 < Builtin.nextslicecap (n + k) c) ∨ n + k ≤ c := by
  rcases Nat.lt_or_ge c (n + k) with h | h
  ·left
   have := growslice_fits (bytes := 1) (need := n + k) (old := c) h (by omega)
   omega
  ·exact .inr h
 have hfc : ∀ w' : World, (Builtin.firstCells 1 k (.string (bstr (List.replicate k 0)))).run P w' = .ok (Builtin.zeroCells #[.int .u8 0] k) w' := fun w' => by
  rw [← hc]; rfl
 by_cases hroom : n + k ≤ c
 ·simp [Builtin.append_, run_underlying ht, run_underlying hti, run_underlying hts, sizeOf, typeInfo, zeroValue, hi, hz, hsize, hby, asInt, asIntOf, hw, h1, h2, h2', h4, Builtin.lenOf, hsz, hroom, hfc, Value.cells]
 ·have hf := hfit.resolve_right hroom
  simp [Builtin.append_, run_underlying ht, run_underlying hti, run_underlying hts, sizeOf, typeInfo, zeroValue, hi, hz, hsize, hby, asInt, asIntOf, hw, h1, h2, h2', h3, h4, Builtin.lenOf, hsz, hroom, hf, hfc, Value.cells]
theorem wpList_step11 {P : Program} {ops : Array Oper} {rest : List Oper} {o : Oper} {a : Act} {w : World} {Q : Exit → Act → World → Prop} (hgd : Region.wanted o (yielded ops a.tmps) = true) (v : Value) (w' : World) (hr : (execOp a.eval o).run P w = .ok (.value v) w') (hk : wpList P ops Q rest (a.put o.dst v) w') : wpList P ops Q (o :: rest) a w := by
 unfold wpList
 rw [if_pos hgd]
 left
 unfold Oper.wp
 rw [hr]
 exact hk
end
end Go.Proofs.YtokbhgbajdomnaaGreatDoor

/-
  Contracts of package blob's Refs and Right, and of the document's. Conditions: bounds. (Written by gen_ehc.py.)
-/
import Derived.Test.YthmneinejfbheaaGreatDoorEhb
import Derived.Test.YthmneinejfbheaaGreatDoorIb
import Derived.Deep.MidRow
set_option linter.unusedVariables false
set_option maxRecDepth 20000
set_option maxHeartbeats 1600000
namespace Go.Proofs.YthmneinejfbheaaGreatDoor
open Go.RowKit Go.Proofs
def Bl3 (w : World) (B : Nat) (A : Option Addr) (n c : Nat) (g z : Int) : Prop := w.heap[B]? = some (.cells #[.slice A n c, .int .u64 g, .int .i64 z] 25 (0, 0))
section
variable {w w' : World} {B n c : Nat} {A : Option Addr} {g z : Int}
theorem Bl3.c0 (h : Bl3 w B A n c g z) : w.cell? ⟨B, 0, none⟩ = some (.slice A n c) := by rw [cell_of_row _ _ _ _ _ _ h]; rfl
theorem Bl3.c1 (h : Bl3 w B A n c g z) : w.cell? ⟨B, 1, none⟩ = some (.int .u64 g) := by rw [cell_of_row _ _ _ _ _ _ h]; rfl
theorem Bl3.c2 (h : Bl3 w B A n c g z) : w.cell? ⟨B, 2, none⟩ = some (.int .i64 z) := by rw [cell_of_row _ _ _ _ _ _ h]; rfl
theorem Bl3.later (h : Bl3 w B A n c g z) (hb : Below w.heap.size w w') : Bl3 w' B A n c g z := (hb.block _ (block_lt h)).trans h
theorem Bl3.new : Bl3 (w.alloc (.cells #[.slice A n c, .int .u64 g, .int .i64 z] 25)) w.heap.size A n c g z := heap_alloc_new w _
theorem size_bl3 : (Tryz.prog.info? 25).map (·.size) = some (#[Value.slice A n c, .int .u64 g, .int .i64 z] : Array Value).size := by
 show _ = some 3
 kernel_rfl
theorem step_bl3 {ρ : Operand → Value} {o : Oper} {x : Operand} (ho : o.op = .load 25 x) (hx : ρ x = .pointer (some ⟨B, 0, none⟩)) (h : Bl3 w B A n c g z) : (execOp ρ o).run Tryz.prog w = .ok (.value (.agg #[.slice A n c, .int .u64 g, .int .i64 z])) w := by
 unfold execOp
 simp only [ho, hx, Instr.loadAt, Instr.sureAddr, Sem.run_bind, Sem.run_pure, Result.andThen_ok, run_loadVar_row w B 25 25 _ (0, 0) _ h Tryz.underlying25 rfl size_bl3]
end
/-! Stripes' names in memory. -/
def r3c (r : Int × Int × Int) : List Value := [.int .u8 r.1, .int .i64 r.2.1, .int .u64 r.2.2]
theorem r3c_len (r : Int × Int × Int) : (r3c r).length = 3 := rfl
theorem r3c_one (r : Int × Int × Int) : ∀ v ∈ r3c r, v.oneCell' = true := by
 intro v hv
 simp [r3c] at hv
 rcases hv with rfl | rfl | rfl <;> rfl
def refsL (zs : List Int) (g : Int) : List (Int × Int × Int) := (List.range zs.length).map fun (i : Nat) => (3, zs.getD i 0, IntKind.u64.wrap (g + (i : Int)))
theorem refsL_len {zs : List Int} {g : Int} : (refsL zs g).length = zs.length := by simp [refsL]
theorem refsL_at {zs : List Int} {g : Int} {i : Nat} (h : i < zs.length) : (refsL zs g)[i]? = some (3, zs.getD i 0, IntKind.u64.wrap (g + (i : Int))) := by simp [refsL, h]
def refsT (zs : List Int) (g : Int) (i : Nat) : List (Int × Int × Int) := (refsL zs g).take i ++ List.replicate (zs.length - i) (0, 0, 0)
theorem refsT_len {zs : List Int} {g : Int} {i : Nat} (h : i ≤ zs.length) : (refsT zs g i).length = zs.length := by
 rw [refsT, List.length_append, List.length_take, refsL_len, List.length_replicate]
 omega
theorem refsT_zero {zs : List Int} {g : Int} : refsT zs g 0 = List.replicate zs.length (0, 0, 0) := by simp [refsT]
theorem refsT_all {zs : List Int} {g : Int} : refsT zs g zs.length = refsL zs g := by
 rw [refsT, List.take_of_length_le (by rw [refsL_len]; exact Nat.le_refl _)]
 simp
theorem refsT_set {zs : List Int} {g : Int} {i : Nat} (h : i < zs.length) : (refsT zs g i).set i (3, zs.getD i 0, IntKind.u64.wrap (g + (i : Int))) = refsT zs g (i + 1) := by
 have h1 : ((refsL zs g).take i).length = i := by rw [List.length_take, refsL_len]; omega
 have h2 : zs.length - i = (zs.length - (i + 1)) + 1 := by omega
 rw [refsT, List.set_append_right _ _ (by omega), h1, Nat.sub_self, h2, List.replicate_succ, List.set_cons_zero, refsT, List.take_add_one, refsL_at h]
 simp
theorem info_ref15 : (Tryz.prog.info? 35).map (fun i => (i.zero, i.size, i.bytes)) = some (some (.agg (r3c (0, 0, 0)).toArray), 3, 24) := by kernel_rfl
theorem size_r3c (r : Int × Int × Int) : (Tryz.prog.info? 35).map (·.size) = some (r3c r).length := by
 show _ = some 3
 kernel_rfl
theorem make_ref15 (z : Int) (k : Nat) (hz : z = (k : Int)) (hk : k ≤ 600) (w : World) :
  (Instr.makeSlice 32 (.int .i64 z) (.int .i64 z)).run Tryz.prog w = .ok (.slice (some ⟨w.heap.size, 0, none⟩) k k) (w.alloc (.cells (madeCells (r3c (0, 0, 0)).toArray (k * 3)) 35)) := by
 obtain ⟨i0, hi, hz0, hz1, hz2⟩ := info_parts info_ref15
 subst hz
 have h := run_make (P := Tryz.prog) w 32 35 i0 (.agg (r3c (0, 0, 0)).toArray) Tryz.underlying32 hi hz0 .i64 .i64 (k : Int) (k : Int) (by omega) (by omega) (by rw [hz2]; omega) (by omega)
 rw [hz1, Int.toNat_natCast] at h
 exact h
theorem Rw.refs15 (w : World) (k : Nat) (hk : k ≤ 600) : Rw (w.alloc (.cells (madeCells (r3c (0, 0, 0)).toArray (k * 3)) 35)) w.heap.size 35 3 k k ((List.replicate k (0, 0, 0)).flatMap r3c) := by
 rw [← made_flat r3c_len (by decide) (0, 0, 0) (r3c (0, 0, 0)).toArray List.toList_toArray k]
 exact Rw.new w _ _ 3 k (size_madeCells _ _) (by unfold maxLen; omega)
theorem Rw.refAt {w : World} {b n cap i : Nat} {l : List (Int × Int × Int)} {r : Int × Int × Int} (h : Rw w b 35 3 n cap (l.flatMap r3c)) (hi : l[i]? = some r) : w.rangeAt b (i * 3) (r3c r) :=
 h.range fun j hj => flat_get r3c_len hi j hj
theorem Rw.refSet {w : World} {b n cap i : Nat} {l : List (Int × Int × Int)} (h : Rw w b 35 3 n cap (l.flatMap r3c)) (hl : l.length = n) (hi : i < n) (r : Int × Int × Int) : Rw (w.setCells b (i * 3) (r3c r)) b 35 3 n cap ((l.set i r).flatMap r3c) := by
 have h2 := h.store (o := i * 3) (vs := r3c r) (by rw [r3c_len]; have : (i + 1) * 3 ≤ n * 3 := Nat.mul_le_mul_right _ hi; omega) (r3c_one r)
 rw [r3c_len, flat_set r3c_len l i r (by rw [hl]; exact hi)] at h2
 exact h2
def RetRefs (zs : List Int) (g : Int) (n : Nat) (w : World) (e : Ending) (w' : World) : Prop := ∃ b, e = .returned (.slice (some ⟨b, 0, none⟩) n n) ∧ Rw w' b 35 3 n n ((refsL zs g).flatMap r3c) ∧ Below w.heap.size w w' ∧ w.heap.size ≤ b
theorem refs15 (A : Option Addr) (n c : Nat) (zs : List Int) (g z : Int) (w : World) (h : Sl w 1 A n c (icells zs)) (hl : zs.length = n) (hn : n ≤ 600) :
  Calls Tryz.prog 10 #[.agg #[.slice A n c, .int .u64 g, .int .i64 z]] w (RetRefs zs g n w) := by
 have hb0 : Below w.heap.size w (w.alloc (.cells #[.slice A n c, .int .u64 g, .int .i64 z] 25)) := (Below.refl _ _).alloc (Nat.le_refl _) _
 have hx0 := Bl3.new (w := w) (A := A) (n := n) (c := c) (g := g) (z := z)
 have hs0 := h.below hb0 (Nat.le_refl _)
 have hrf := Rw.refs15 (w.alloc (.cells #[.slice A n c, .int .u64 g, .int .i64 z] 25)) n hn
 have hb1 : Below (w.alloc (.cells #[.slice A n c, .int .u64 g, .int .i64 z] 25)).heap.size (w.alloc (.cells #[.slice A n c, .int .u64 g, .int .i64 z] 25)) ((w.alloc (.cells #[.slice A n c, .int .u64 g, .int .i64 z] 25)).alloc (.cells (madeCells (r3c (0, 0, 0)).toArray (n * 3)) 35)) := (Below.refl _ _).alloc (Nat.le_refl _) _
 have hmk := make_ref15 (n : Int) n rfl hn
 rw [show (w.alloc (.cells #[.slice A n c, .int .u64 g, .int .i64 z] 25)).heap.size = w.heap.size + 1 by simp] at hrf
 have HX := qH (hx0.later hb1)
 have HB := qH (hb0.trans (hb1.mono hb0.size))
 have HS := qH (hs0.below hb1 (Nat.le_refl _))
 have HR := qH hrf
 have HL := qH hl
 have HS0 := qH (show ∀ b o, 0 < n → A = some ⟨b, o, none⟩ → b < w.heap.size from fun b o hn hA => h.lt (by decide) hn hA)
 have q0 := hx0.c0
 clear h hb0 hx0 hs0 hrf hb1 hl
 go_enter Tryz.func10, Tryz.ntmps10
 go_wp2_with fail
 obtain ⟨w1, hw1⟩ : ∃ x, x = (w.alloc (.cells #[.slice A n c, .int .u64 g, .int .i64 z] 25)).alloc (.cells (madeCells (r3c (0, 0, 0)).toArray (n * 3)) 35) := ⟨_, rfl⟩
 rw [← hw1] at HX HB HS HR ⊢
 clear hw1 hmk
 have q0 := HX.out.c0
 have Q1 := qH HX.out.c1
 go_wp2_with fail
 go_loopw [13] (fun kv wr => ∃ k : Nat, k ≤ n ∧ kv = .int .i64 (k : Int) ∧ Rw wr (w.heap.size + 1) 35 3 n n ((refsT zs g k).flatMap r3c) ∧ Fr (fun b => b = w.heap.size + 1) w1 wr) (fun kv _ => n - (intOf kv).toNat)
 case atStart => exact ⟨0, by omega, rfl, by rw [refsT_zero, HL.out]; exact HR.out, Fr.refl _ _⟩
 case round =>
  obtain ⟨k, hk, rfl, hr, hf⟩ := hrel
  have RR := qH hr
  have FF := qH hf
  have sl := HS.out.fr hf (fun b o hn hA q => by have q : b = w.heap.size + 1 := q; have := HS0.out b o hn hA; omega)
  have p1 := hf.cell_some Q1.out (fun q => by have q : w.heap.size = w.heap.size + 1 := q; omega)
  clear hr hf q0
  by_cases hlt : k < n
  ·have hki : (k : Int) < (n : Int) := by omega
   have hkz : k < zs.length := by rw [HL.out]; exact hlt
   obtain ⟨b1, o1, hA, hc⟩ := sl.at_ hlt
   subst hA
   have hcell := hc k _ (icells_get zs k hkz)
   have hgd : zs.getD k 0 = zs[k] := by simp [hkz]
   rw [← hgd] at hcell
   obtain ⟨y, hy⟩ : ∃ y, y = zs.getD k 0 := ⟨_, rfl⟩
   rw [← hy] at hcell
   have HY := qH hy
   have th := qH (RR.out.there (o := k * 3) (m := 3) (by have : (k + 1) * 3 ≤ n * 3 := Nat.mul_le_mul_right _ hlt; omega))
   clear hc hgd hy
   go_wp2_with (refine at_none ?_; refine wpList_store_mid (op := ⟨none, _, _, _, _, _⟩) rfl 35 (.tmp 27) (.tmp 26) rfl (w.heap.size + 1) (k * 3) (r3c (3, y, IntKind.u64.wrap (g + (k : Int)))).toArray rfl rfl th.out (size_r3c _) (all_oneCell_toArray (r3c_one _)) ?_)
   have hset := RR.out.refSet (by rw [refsT_len (by omega)]; exact HL.out) hlt (3, y, IntKind.u64.wrap (g + (k : Int)))
   rw [HY.out, refsT_set hkz] at hset
   rw [← HY.out] at hset
   go_roundw
   case rel => exact ⟨k + 1, by omega, by go_num, hset, Fr.setCells _ FF.out rfl⟩
   case measure => simp [intOf]; omega
  ·obtain rfl : k = n := by omega
   go_wp2_with fail
   go_ret
   refine ⟨w.heap.size + 1, rfl, ?_, ?_, by omega⟩
   ·have := RR.out
    rwa [← HL.out, refsT_all, HL.out] at this
   ·exact HB.out.trans (FF.out.below HB.out.size (fun b hb => by have hb : b = _ := hb; omega))
/-! The document's names: laid one behind the other. -/
theorem step_refb15 {ρ : Operand → Value} {o : Oper} {a b c : Operand} {w : World} {k p g : Int} (ho : o.op = .build 35 #[(0, a), (1, b), (2, c)]) (h0 : ρ a = .int .u8 k) (h1 : ρ b = .int .i64 p) (h2 : ρ c = .int .u64 g) :
  (execOp ρ o).run Tryz.prog w = .ok (.value (.agg (r3c (k, p, g)).toArray)) w := by
 have hb : Tryz.prog.built 35 [(0, .int .u8 k), (1, .int .i64 p), (2, .int .u64 g)] = some #[.int .u8 k, .int .i64 p, .int .u64 g] := by kernel_rfl
 have h := run_build w 35 #[(0, .int .u8 k), (1, .int .i64 p), (2, .int .u64 g)] _ hb
 unfold execOp
 simp [ho, h0, h1, h2, h, Result.andThen, r3c]
theorem step_addu15 {ρ : Operand → Value} {o : Oper} {x y : Operand} {w : World} {a b : Int} {t u : TypeId} (ho : o.op = .binOp .add t x y u) (hx : ρ x = .int .u64 a) (hy : ρ y = .int .u64 b) : (execOp ρ o).run Tryz.prog w = .ok (.value (.int .u64 (IntKind.u64.wrap (a + b)))) w := by
 unfold execOp
 simp [ho, hx, hy, go_sem]
theorem fill3 (z0 z1 z2 v0 v1 v2 : Value) : Instr.fill (fun i => some (i * 3, 3)) ((Array.range (1 * 3)).map ((Value.agg #[z0, z1, z2]).cells[· % (Value.agg #[z0, z1, z2]).cells.size]!)) [(0, .agg #[v0, v1, v2])] = some #[v0, v1, v2] := by kernel_rfl
theorem fill3a {z0 z1 z2 v0 v1 v2 : Value} (a : Act) (x : Operand) (h : a.eval x = .agg #[v0, v1, v2]) : Instr.fill (fun i => some (i * 3, 3)) ((Array.range (1 * 3)).map ((Value.agg #[z0, z1, z2]).cells[· % (Value.agg #[z0, z1, z2]).cells.size]!)) (Array.map (fun (i, x) => (i, a.eval x)) #[((0 : Nat), x)]).toList = some #[v0, v1, v2] := by
 have e : (Array.map (fun (i, x) => (i, a.eval x)) #[((0 : Nat), x)]).toList = [(0, a.eval x)] := by simp
 rw [e, h]
 exact fill3 ..
end Go.Proofs.YthmneinejfbheaaGreatDoor

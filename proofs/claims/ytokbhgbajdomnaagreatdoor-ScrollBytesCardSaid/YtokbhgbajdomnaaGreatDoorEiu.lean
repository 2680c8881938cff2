/-
  GetBytes and PutBytes of scrolls, package scroll's and the document's, the walk of the statement's function ScrollBytes, and scrolls as arguments. Conditions: drives as 'DrvK' says, stripes as 'StrV' says; both tables read as the row lists them.
-/
import Derived.Test.YtokbhgbajdomnaaGreatDoorEip
import Derived.Test.YtokbhgbajdomnaaGreatDoorEii
import Derived.Test.YtokbhgbajdomnaaGreatDoorEio
namespace Go.Proofs.YtokbhgbajdomnaaGreatDoor
open Go.RowKit Go.Proofs
set_option linter.unusedVariables false

/-- A name as cells. -/
def scQ16 (a g c z : Int) : Array Value := #[.int .i64 a, .int .u64 g, .int .i64 c, .int .i64 z]
theorem flds_sc16 : (Tryz.prog.fieldsOf 38).toList.map (fun f => (decide (f.name ≠ "_"), f.type, f.offset)) = [(true, 3, 0), (true, 36, 1), (true, 3, 2), (true, 3, 3)] := by kernel_rfl
theorem und_sc16 : Tryz.prog.underlying 38 = some (.struct (Tryz.prog.fieldsOf 38)) := by kernel_rfl
theorem stood_sc16 : Tryz.prog.stoodInHeld 38 = false := by kernel_rfl
/-- Whether two scrolls' names are one. -/
def eqS16 (a g c z a2 g2 c2 z2 : Int) : Bool := decide (a = a2 ∧ g = g2 ∧ c = c2 ∧ z = z2)
theorem eq_sc16 (w : World) (a g c z a2 g2 c2 z2 : Int) : (Op.equalIn 10000 38 (.agg (scQ16 a g c z)) (.agg (scQ16 a2 g2 c2 z2))).run Tryz.prog w = .ok (eqS16 a g c z a2 g2 c2 z2) w := by
  have h0 := run_equalIn_struct (P := Tryz.prog) w 9999 38 (scQ16 a g c z) (scQ16 a2 g2 c2 z2) und_sc16 stood_sc16
  rw [eqFields_trip, flds_sc16] at h0
  refine h0.trans ?_
  have h3 := eqTrip_int (P := Tryz.prog) (d := 9998) w Tryz.underlying3 (o := 0) (a := a) (b := a2) (xs := scQ16 a g c z) (ys := scQ16 a2 g2 c2 z2) rfl rfl _ (eqTrip_int w Tryz.underlying36 (o := 1) (a := g) (b := g2) rfl rfl _ (eqTrip_int w Tryz.underlying3 (o := 2) (a := c) (b := c2) rfl rfl _ (eqTrip_int w Tryz.underlying3 (o := 3) (a := z) (b := z2) rfl rfl [] (r := true) rfl)))
  have e : (a == a2 && (g == g2 && (c == c2 && (z == z2 && true)))) = eqS16 a g c z a2 g2 c2 z2 := by
    unfold eqS16
    by_cases q0 : a = a2 <;> by_cases q1 : g = g2 <;> by_cases q2 : c = c2 <;> by_cases q3 : z = z2 <;> simp [q0, q1, q2, q3]
  rw [h3, e]
theorem eqg_sc16 : Tryz.prog.eqGuardType Tryz.prog.depth 38 = false := by kernel_rfl
theorem step_eqs16 {ρ : Operand → Value} {o : Oper} {x y : Operand} {w : World} {a g c z a2 g2 c2 z2 : Int} {T : TypeId} (ho : o.op = .binOp .eql 38 x y T) (hx : ρ x = .agg (scQ16 a g c z)) (hy : ρ y = .agg (scQ16 a2 g2 c2 z2)) : (execOp ρ o).run Tryz.prog w = .ok (.value (.bool (eqS16 a g c z a2 g2 c2 z2))) w := by
  have h : (binOp .eql 38 (.agg (scQ16 a g c z)) (.agg (scQ16 a2 g2 c2 z2))).run Tryz.prog w = .ok (.bool (eqS16 a g c z a2 g2 c2 z2)) w := by rw [run_eql_struct, eq_sc16]; rfl
  have g' := fun op => run_eqGuard_agg (P := Tryz.prog) w op 38 x y (scQ16 a g c z) (scQ16 a2 g2 c2 z2) eqg_sc16
  unfold execOp
  simp [ho, hx, hy, h, g', Result.andThen]
theorem step_nes16 {ρ : Operand → Value} {o : Oper} {x y : Operand} {w : World} {a g c z : Int} {T : TypeId} (ho : o.op = .binOp .neq 38 x y T) (hx : ρ x = .agg (scQ16 a g c z)) (hy : ρ y = .agg (scQ16 a g c z)) : (execOp ρ o).run Tryz.prog w = .ok (.value (.bool false)) w := by
  have e : eqS16 a g c z a g c z = true := by simp [eqS16]
  have h : (binOp .neq 38 (.agg (scQ16 a g c z)) (.agg (scQ16 a g c z))).run Tryz.prog w = .ok (.bool false) w := by rw [run_neq_struct, eq_sc16, e]; rfl
  have g' := fun op => run_eqGuard_agg (P := Tryz.prog) w op 38 x y (scQ16 a g c z) (scQ16 a g c z) eqg_sc16
  unfold execOp
  simp [ho, hx, hy, h, g', Result.andThen]

theorem gB16_e0 {l : List UInt8} {a : Int} {x er : Nat} (h : getN16 l a 2 = (x, er)) (he : er ≠ 0) : gB16 l a = (0, 0, 0, 0, er) := by
  unfold gB16
  rw [h, if_pos he]
theorem gB16_e1 {l : List UInt8} {a : Int} {v0 x er : Nat} (h0 : getN16 l a 2 = (v0, 0)) (h : getN16 l (a + 2) 8 = (x, er)) (he : er ≠ 0) : gB16 l a = (0, 0, 0, 0, er) := by
  unfold gB16
  rw [h0, if_neg (by simp), h, if_pos he]
theorem gB16_e2 {l : List UInt8} {a : Int} {v0 v1 x er : Nat} (h0 : getN16 l a 2 = (v0, 0)) (h1 : getN16 l (a + 2) 8 = (v1, 0)) (h : getN16 l (a + 10) 2 = (x, er)) (he : er ≠ 0) : gB16 l a = (0, 0, 0, 0, er) := by
  unfold gB16
  rw [h0, if_neg (by simp), h1, if_neg (by simp), h, if_pos he]
theorem gB16_e3 {l : List UInt8} {a : Int} {v0 v1 v2 x er : Nat} (h0 : getN16 l a 2 = (v0, 0)) (h1 : getN16 l (a + 2) 8 = (v1, 0)) (h2 : getN16 l (a + 10) 2 = (v2, 0)) (h : getN16 l (a + 12) 4 = (x, er)) (he : er ≠ 0) : gB16 l a = (0, 0, 0, 0, er) := by
  unfold gB16
  rw [h0, if_neg (by simp), h1, if_neg (by simp), h2, if_neg (by simp), h, if_pos he]
theorem gB16_ok {l : List UInt8} {a : Int} {v0 v1 v2 v3 : Nat} (h0 : getN16 l a 2 = (v0, 0)) (h1 : getN16 l (a + 2) 8 = (v1, 0)) (h2 : getN16 l (a + 10) 2 = (v2, 0)) (h3 : getN16 l (a + 12) 4 = (v3, 0)) : gB16 l a = (v0, v1, v2, v3, 0) := by
  unfold gB16
  rw [h0, if_neg (by simp), h1, if_neg (by simp), h2, if_neg (by simp), h3, if_neg (by simp)]
theorem run_ix16_0 (w : World) : (Instr.index 134 (.agg #[.int .i64 2, .int .i64 8, .int .i64 2, .int .i64 4]) (.int .i64 0)).run Tryz.prog w = .ok (.int .i64 2) w := by
  have hs : (sizeOf 3).run Tryz.prog w = .ok 1 w := by kernel_rfl
  simp [Instr.index, asIntOf, run_underlying Tryz.underlying134, hs, part]
theorem run_ix16_1 (w : World) : (Instr.index 134 (.agg #[.int .i64 2, .int .i64 8, .int .i64 2, .int .i64 4]) (.int .i64 1)).run Tryz.prog w = .ok (.int .i64 8) w := by
  have hs : (sizeOf 3).run Tryz.prog w = .ok 1 w := by kernel_rfl
  simp [Instr.index, asIntOf, run_underlying Tryz.underlying134, hs, part]
theorem run_ix16_2 (w : World) : (Instr.index 134 (.agg #[.int .i64 2, .int .i64 8, .int .i64 2, .int .i64 4]) (.int .i64 2)).run Tryz.prog w = .ok (.int .i64 2) w := by
  have hs : (sizeOf 3).run Tryz.prog w = .ok 1 w := by kernel_rfl
  simp [Instr.index, asIntOf, run_underlying Tryz.underlying134, hs, part]
theorem run_ix16_3 (w : World) : (Instr.index 134 (.agg #[.int .i64 2, .int .i64 8, .int .i64 2, .int .i64 4]) (.int .i64 3)).run Tryz.prog w = .ok (.int .i64 4) w := by
  have hs : (sizeOf 3).run Tryz.prog w = .ok 1 w := by kernel_rfl
  simp [Instr.index, asIntOf, run_underlying Tryz.underlying134, hs, part]
/-- Where number i lies. -/
def off16 : Nat → Int
  | 0 => 0
  | 1 => 2
  | 2 => 10
  | 3 => 12
  | _ => 16
/-- So many numbers are read. -/
def So16 (l : List UInt8) (a : Int) (i v0 v1 v2 v3 : Nat) : Prop :=
  (0 < i → getN16 l a 2 = (v0, 0)) ∧ (1 < i → getN16 l (a + 2) 8 = (v1, 0)) ∧ (2 < i → getN16 l (a + 10) 2 = (v2, 0)) ∧ (3 < i → getN16 l (a + 12) 4 = (v3, 0))
theorem Rw.aside16 {w : World} {b C : Nat} {T : TypeId} {k n cap : Nat} {xs : List Value} (h : Rw w b T k n cap xs) (hb : b ≠ C) (i : Nat) (v : Value) : Rw (w.setCell ⟨C, i, none⟩ v) b T k n cap xs :=
  ⟨by
    obtain ⟨cur, h1, h2, h3⟩ := h.ex
    exact ⟨cur, (Below.heap_setCell _ _ _ _ hb).trans h1, h2, h3⟩, h.le, h.top⟩
/-- What the loop keeps: the result's variable, the numbers, the place. -/
structure Lp16 (w wx : World) (B C : Nat) (T : TypeId) (l : List UInt8) (a : Int) (i : Nat) (b : Int) (v0 v1 v2 v3 : Nat) : Prop where
  le : i ≤ 4
  r : Rw wx C T 1 4 4 [.int .u64 (v0 : Int), .int .u64 (v1 : Int), .int .u64 (v2 : Int), .int .u64 (v3 : Int)]
  y : Sc16 wx B 0 0 0 0
  bel : Below w.heap.size w wx
  so : So16 l a i v0 v1 v2 v3
  pl : b = a + off16 i
  ob : w.heap.size ≤ B ∧ w.heap.size ≤ C ∧ B ≠ C
theorem Lp16.next {w wx : World} {B C : Nat} {T : TypeId} {l : List UInt8} {a : Int} {i : Nat} {b b2 : Int} {v0 v1 v2 v3 u0 u1 u2 u3 : Nat} (h : Lp16 w wx B C T l a i b v0 v1 v2 v3) (v : Value)
    (hi : i < 4) (hs : [Value.int .u64 (v0 : Int), .int .u64 (v1 : Int), .int .u64 (v2 : Int), .int .u64 (v3 : Int)].set i v = [.int .u64 (u0 : Int), .int .u64 (u1 : Int), .int .u64 (u2 : Int), .int .u64 (u3 : Int)]) (ho : So16 l a (i + 1) u0 u1 u2 u3) (hb : b2 = a + off16 (i + 1)) :
    Lp16 w (wx.setCell ⟨C, i, none⟩ v) B C T l a (i + 1) b2 u0 u1 u2 u3 :=
  ⟨hi, by rw [← hs]; exact h.r.set10 i v, (Below.heap_setCell _ _ _ _ (show B ≠ C from h.ob.2.2)).trans h.y, h.bel.setCell (show w.heap.size ≤ C from h.ob.2.1) v, ho, hb, h.ob⟩
set_option maxHeartbeats 3200000 in
set_option maxRecDepth 100000 in
theorem getBytes16 (A : Option Addr) (n c : Nat) (l : List UInt8) (a : Int) (w : World) (h : Sl w 1 A n c (cells l)) (hn : n ≤ 100000) (ha : -9223372036854775808 ≤ a ∧ a < 9223372036854775808) :
    Calls Tryz.prog 33 #[.slice A n c, .int .i64 a] w (fun e w' => e = .returned (.tuple #[.agg #[.int .i64 ((gB16 l a).1 : Nat), .int .u64 ((gB16 l a).2.1 : Nat), .int .i64 ((gB16 l a).2.2.1 : Nat), .int .i64 ((gB16 l a).2.2.2.1 : Nat)], .int .i64 ((gB16 l a).2.2.2.2 : Nat)]) ∧ Below w.heap.size w w') := by
  have hln := h.len
  rw [cells_length, Nat.mul_one] at hln
  have HLN := Lib.hid (show l.length ≤ 100000 from by omega)
  have HS := Lib.hid h
  have sz := Lib.hid (size_sc16 0 0 0 0)
  have hx := Sc16.new (w := w) (a := 0) (g := 0) (c := 0) (z := 0)
  have hba : Below w.heap.size w (w.alloc (.cells #[.int .i64 0, .int .u64 0, .int .i64 0, .int .i64 0] 38)) := (Below.refl _ _).alloc (Nat.le_refl _) _
  have hr := Rw.new (w.alloc (.cells #[.int .i64 0, .int .u64 0, .int .i64 0, .int .i64 0] 38)) #[.int .u64 0, .int .u64 0, .int .u64 0, .int .u64 0] 133 1 4 rfl (by decide)
  have hxb : Below (w.alloc (.cells #[.int .i64 0, .int .u64 0, .int .i64 0, .int .i64 0] 38)).heap.size (w.alloc (.cells #[.int .i64 0, .int .u64 0, .int .i64 0, .int .i64 0] 38)) ((w.alloc (.cells #[.int .i64 0, .int .u64 0, .int .i64 0, .int .i64 0] 38)).alloc (.cells #[.int .u64 0, .int .u64 0, .int .u64 0, .int .u64 0] 133)) := (Below.refl _ _).alloc (Nat.le_refl _) _
  have hll : Lp16 w ((w.alloc (.cells #[.int .i64 0, .int .u64 0, .int .i64 0, .int .i64 0] 38)).alloc (.cells #[.int .u64 0, .int .u64 0, .int .u64 0, .int .u64 0] 133)) w.heap.size (w.heap.size + 1) 133 l a 0 a 0 0 0 0 :=
    ⟨by decide, by rw [World.size_alloc] at hr; exact hr, hx.later hxb, hba.trans (hxb.mono hba.size), ⟨fun q => absurd q (by decide), fun q => absurd q (by decide), fun q => absurd q (by decide), fun q => absurd q (by decide)⟩, by simp [off16], by omega⟩
  clear hx hba hr hxb hln h
  go_enter Tryz.func33, Tryz.ntmps33
  go_wp2_with fail
  obtain ⟨B, hB⟩ : ∃ B, B = w.heap.size := ⟨_, rfl⟩
  obtain ⟨C, hC⟩ : ∃ C, C = w.heap.size + 1 := ⟨_, rfl⟩
  obtain ⟨wz, hwz⟩ : ∃ wz, wz = (w.alloc (.cells #[.int .i64 0, .int .u64 0, .int .i64 0, .int .i64 0] 38)).alloc (.cells #[.int .u64 0, .int .u64 0, .int .u64 0, .int .u64 0] 133) := ⟨_, rfl⟩
  rw [← hC, ← hwz] at hll ⊢
  rw [show Lp16 w wz w.heap.size C 133 l a 0 a 0 0 0 0 = Lp16 w wz B C 133 l a 0 a 0 0 0 0 from by rw [hB]] at hll
  rw [← hB]
  have HL := Lib.hid hll
  clear hll hwz hC hB
  go_loopw [1, 12] (fun av iv wx => ∃ (i : Nat) (b : Int) (v0 v1 v2 v3 : Nat), av = .int .i64 b ∧ iv = .int .i64 (i : Int) ∧ Lp16 w wx B C 133 l a i b v0 v1 v2 v3) (fun _ iv _ => 4 - (intOf iv).toNat)
  case atStart => exact ⟨0, a, 0, 0, 0, 0, rfl, rfl, HL.out⟩
  case round =>
    obtain ⟨i, b, v0, v1, v2, v3, rfl, rfl, hl⟩ := hrel
    clear HL
    have HLP := Lib.hid hl
    rcases (show i = 0 ∨ i = 1 ∨ i = 2 ∨ i = 3 ∨ i = 4 from by have := hl.le; omega) with rfl | rfl | rfl | rfl | rfl
    · have HBA := Lib.hid (show b = a + 0 from hl.pl)
      obtain ⟨x, er, hxe⟩ : ∃ x er, getN16 l b 2 = (x, er) := ⟨_, _, rfl⟩
      have hg := get_any16 A n c l b 2 wr (HS.out.below hl.bel (Nat.le_refl _))
      rw [hxe] at hg
      dsimp only at hg
      have HXE := Lib.hid (show getN16 l a 2 = (x, er) from by have e := HBA.out; rw [← hxe]; congr 1; omega)
      have hc := hl.r.cell (j := 0) rfl
      have hf := hl.r.free 0
      have hix := run_ix16_0
      by_cases he : er = 0
      · subst he
        have hin := getN16_in (l := l) (at_ := b) (m := 2) (by rw [hxe])
        have b1 : 0 ≤ b := hin.1
        have b2 : b ≤ 100000 := by have := hin.2; have := HLN.out; omega
        clear hxe hl hin
        go_wp2_with fail
        refine hg.mono ?_; clear hg; rintro e w1 ⟨rfl, hw⟩
        obtain rfl : wr = w1 := hw
        go_wp2_with fail
        go_roundw
        case rel => exact ⟨1, _, x, v1, v2, v3, rfl, by first | rfl | go_num, HLP.out.next _ (by decide) rfl ⟨fun _ => HXE.out, fun q => absurd q (by decide), fun q => absurd q (by decide), fun q => absurd q (by decide)⟩ (by have := HBA.out; show b + 2 = a + 2; omega)⟩
        case measure => simp [intOf]
      · have hz : ((er : Int) != 0) = true := by simp; omega
        have HE := Lib.hid (gB16_e0 HXE.out he)
        clear hxe hl he
        go_wp2_with fail
        refine hg.mono ?_; clear hg; rintro e w1 ⟨rfl, hw⟩
        obtain rfl : wr = w1 := hw
        go_wp2_with (refine at_none ?_; refine wpList_store_row (o := ⟨none, _, _, _, _, _⟩) rfl 38 (.tmp 4) (.tmp 25) rfl B #[.int .i64 0, .int .u64 0, .int .i64 0, .int .i64 0] rfl rfl 38 _ HLP.out.y sz.out rfl one_sc16 ?_)
        (try simp only [Exit.inBlock, Exit.then]); refine bodyPost_ret (results_cell_pair Tryz.results33 _ _ B 38 _ (0, 0) _ rfl (setRow_heap _ _ _ _ _ _ HLP.out.y) Tryz.underlying38 rfl sz.out) rfl ?_
        exact ⟨by rw [HE.out]; rfl, below_setRow HLP.out.bel HLP.out.ob.1 _⟩
    · have HBA := Lib.hid (show b = a + 2 from hl.pl)
      obtain ⟨x, er, hxe⟩ : ∃ x er, getN16 l b 8 = (x, er) := ⟨_, _, rfl⟩
      have hg := get_any16 A n c l b 8 wr (HS.out.below hl.bel (Nat.le_refl _))
      rw [hxe] at hg
      dsimp only at hg
      have H0 := Lib.hid (hl.so.1 (by decide))
      have HXE := Lib.hid (show getN16 l (a + 2) 8 = (x, er) from by have e := HBA.out; rw [← hxe]; congr 1; omega)
      have hc := hl.r.cell (j := 1) rfl
      have hf := hl.r.free 1
      have hix := run_ix16_1
      by_cases he : er = 0
      · subst he
        have hin := getN16_in (l := l) (at_ := b) (m := 8) (by rw [hxe])
        have b1 : 0 ≤ b := hin.1
        have b2 : b ≤ 100000 := by have := hin.2; have := HLN.out; omega
        clear hxe hl hin
        go_wp2_with fail
        refine hg.mono ?_; clear hg; rintro e w1 ⟨rfl, hw⟩
        obtain rfl : wr = w1 := hw
        go_wp2_with fail
        go_roundw
        case rel => exact ⟨2, _, v0, x, v2, v3, rfl, by first | rfl | go_num, HLP.out.next _ (by decide) rfl ⟨fun _ => H0.out, fun _ => HXE.out, fun q => absurd q (by decide), fun q => absurd q (by decide)⟩ (by have := HBA.out; show b + 8 = a + 10; omega)⟩
        case measure => simp [intOf]
      · have hz : ((er : Int) != 0) = true := by simp; omega
        have HE := Lib.hid (gB16_e1 H0.out HXE.out he)
        clear hxe hl he
        go_wp2_with fail
        refine hg.mono ?_; clear hg; rintro e w1 ⟨rfl, hw⟩
        obtain rfl : wr = w1 := hw
        go_wp2_with (refine at_none ?_; refine wpList_store_row (o := ⟨none, _, _, _, _, _⟩) rfl 38 (.tmp 4) (.tmp 25) rfl B #[.int .i64 0, .int .u64 0, .int .i64 0, .int .i64 0] rfl rfl 38 _ HLP.out.y sz.out rfl one_sc16 ?_)
        (try simp only [Exit.inBlock, Exit.then]); refine bodyPost_ret (results_cell_pair Tryz.results33 _ _ B 38 _ (0, 0) _ rfl (setRow_heap _ _ _ _ _ _ HLP.out.y) Tryz.underlying38 rfl sz.out) rfl ?_
        exact ⟨by rw [HE.out]; rfl, below_setRow HLP.out.bel HLP.out.ob.1 _⟩
    · have HBA := Lib.hid (show b = a + 10 from hl.pl)
      obtain ⟨x, er, hxe⟩ : ∃ x er, getN16 l b 2 = (x, er) := ⟨_, _, rfl⟩
      have hg := get_any16 A n c l b 2 wr (HS.out.below hl.bel (Nat.le_refl _))
      rw [hxe] at hg
      dsimp only at hg
      have H0 := Lib.hid (hl.so.1 (by decide))
      have H1 := Lib.hid (hl.so.2.1 (by decide))
      have HXE := Lib.hid (show getN16 l (a + 10) 2 = (x, er) from by have e := HBA.out; rw [← hxe]; congr 1; omega)
      have hc := hl.r.cell (j := 2) rfl
      have hf := hl.r.free 2
      have hix := run_ix16_2
      by_cases he : er = 0
      · subst he
        have hin := getN16_in (l := l) (at_ := b) (m := 2) (by rw [hxe])
        have b1 : 0 ≤ b := hin.1
        have b2 : b ≤ 100000 := by have := hin.2; have := HLN.out; omega
        clear hxe hl hin
        go_wp2_with fail
        refine hg.mono ?_; clear hg; rintro e w1 ⟨rfl, hw⟩
        obtain rfl : wr = w1 := hw
        go_wp2_with fail
        go_roundw
        case rel => exact ⟨3, _, v0, v1, x, v3, rfl, by first | rfl | go_num, HLP.out.next _ (by decide) rfl ⟨fun _ => H0.out, fun _ => H1.out, fun _ => HXE.out, fun q => absurd q (by decide)⟩ (by have := HBA.out; show b + 2 = a + 12; omega)⟩
        case measure => simp [intOf]
      · have hz : ((er : Int) != 0) = true := by simp; omega
        have HE := Lib.hid (gB16_e2 H0.out H1.out HXE.out he)
        clear hxe hl he
        go_wp2_with fail
        refine hg.mono ?_; clear hg; rintro e w1 ⟨rfl, hw⟩
        obtain rfl : wr = w1 := hw
        go_wp2_with (refine at_none ?_; refine wpList_store_row (o := ⟨none, _, _, _, _, _⟩) rfl 38 (.tmp 4) (.tmp 25) rfl B #[.int .i64 0, .int .u64 0, .int .i64 0, .int .i64 0] rfl rfl 38 _ HLP.out.y sz.out rfl one_sc16 ?_)
        (try simp only [Exit.inBlock, Exit.then]); refine bodyPost_ret (results_cell_pair Tryz.results33 _ _ B 38 _ (0, 0) _ rfl (setRow_heap _ _ _ _ _ _ HLP.out.y) Tryz.underlying38 rfl sz.out) rfl ?_
        exact ⟨by rw [HE.out]; rfl, below_setRow HLP.out.bel HLP.out.ob.1 _⟩
    · have HBA := Lib.hid (show b = a + 12 from hl.pl)
      obtain ⟨x, er, hxe⟩ : ∃ x er, getN16 l b 4 = (x, er) := ⟨_, _, rfl⟩
      have hg := get_any16 A n c l b 4 wr (HS.out.below hl.bel (Nat.le_refl _))
      rw [hxe] at hg
      dsimp only at hg
      have H0 := Lib.hid (hl.so.1 (by decide))
      have H1 := Lib.hid (hl.so.2.1 (by decide))
      have H2 := Lib.hid (hl.so.2.2.1 (by decide))
      have HXE := Lib.hid (show getN16 l (a + 12) 4 = (x, er) from by have e := HBA.out; rw [← hxe]; congr 1; omega)
      have hc := hl.r.cell (j := 3) rfl
      have hf := hl.r.free 3
      have hix := run_ix16_3
      by_cases he : er = 0
      · subst he
        have hin := getN16_in (l := l) (at_ := b) (m := 4) (by rw [hxe])
        have b1 : 0 ≤ b := hin.1
        have b2 : b ≤ 100000 := by have := hin.2; have := HLN.out; omega
        clear hxe hl hin
        go_wp2_with fail
        refine hg.mono ?_; clear hg; rintro e w1 ⟨rfl, hw⟩
        obtain rfl : wr = w1 := hw
        go_wp2_with fail
        go_roundw
        case rel => exact ⟨4, _, v0, v1, v2, x, rfl, by first | rfl | go_num, HLP.out.next _ (by decide) rfl ⟨fun _ => H0.out, fun _ => H1.out, fun _ => H2.out, fun _ => HXE.out⟩ (by have := HBA.out; show b + 4 = a + 16; omega)⟩
        case measure => simp [intOf]
      · have hz : ((er : Int) != 0) = true := by simp; omega
        have HE := Lib.hid (gB16_e3 H0.out H1.out H2.out HXE.out he)
        clear hxe hl he
        go_wp2_with fail
        refine hg.mono ?_; clear hg; rintro e w1 ⟨rfl, hw⟩
        obtain rfl : wr = w1 := hw
        go_wp2_with (refine at_none ?_; refine wpList_store_row (o := ⟨none, _, _, _, _, _⟩) rfl 38 (.tmp 4) (.tmp 25) rfl B #[.int .i64 0, .int .u64 0, .int .i64 0, .int .i64 0] rfl rfl 38 _ HLP.out.y sz.out rfl one_sc16 ?_)
        (try simp only [Exit.inBlock, Exit.then]); refine bodyPost_ret (results_cell_pair Tryz.results33 _ _ B 38 _ (0, 0) _ rfl (setRow_heap _ _ _ _ _ _ HLP.out.y) Tryz.underlying38 rfl sz.out) rfl ?_
        exact ⟨by rw [HE.out]; rfl, below_setRow HLP.out.bel HLP.out.ob.1 _⟩
    · obtain ⟨so0, so1, so2, so3⟩ := hl.so
      have HE := Lib.hid (gB16_ok (so0 (by decide)) (so1 (by decide)) (so2 (by decide)) (so3 (by decide)))
      have y0 : v0 < 65536 := by have h := getN16_lt l a 2; rw [show getN16 l a ((2 : Nat) : Int) = (v0, 0) from so0 (by decide)] at h; exact h
      have y2 : v2 < 65536 := by have h := getN16_lt l (a + 10) 2; rw [show getN16 l (a + 10) ((2 : Nat) : Int) = (v2, 0) from so2 (by decide)] at h; exact h
      have y3 : v3 < 4294967296 := by have h := getN16_lt l (a + 12) 4; rw [show getN16 l (a + 12) ((4 : Nat) : Int) = (v3, 0) from so3 (by decide)] at h; exact h
      have hw0 : wrap64 (v0 : Int) = (v0 : Int) := by unfold wrap64; omega
      have hw2 : wrap64 (v2 : Int) = (v2 : Int) := by unfold wrap64; omega
      have hw3 : wrap64 (v3 : Int) = (v3 : Int) := by unfold wrap64; omega
      have c0 := hl.r.cell (j := 0) rfl
      have c1 := hl.r.cell (j := 1) rfl
      have c2 := hl.r.cell (j := 2) rfl
      have c3 := hl.r.cell (j := 3) rfl
      have sz := Lib.hid (size_sc16 (v0 : Int) (v1 : Int) (v2 : Int) (v3 : Int))
      clear so0 so1 so2 so3 hl y0 y2 y3
      go_wp2_with (refine at_none ?_; refine wpList_store_row (o := ⟨none, _, _, _, _, _⟩) rfl 38 (.tmp 4) (.tmp 45) rfl B #[.int .i64 (v0 : Int), .int .u64 (v1 : Int), .int .i64 (v2 : Int), .int .i64 (v3 : Int)] rfl rfl 38 _ HLP.out.y sz.out rfl one_sc16 ?_)
      (try simp only [Exit.inBlock, Exit.then]); refine bodyPost_ret (results_cell_pair Tryz.results33 _ _ B 38 _ (0, 0) _ rfl (setRow_heap _ _ _ _ _ _ HLP.out.y) Tryz.underlying38 rfl sz.out) rfl ?_
      exact ⟨by rw [HE.out]; rfl, below_setRow HLP.out.bel HLP.out.ob.1 _⟩
theorem Lp16.later {w wx w3 : World} {B C : Nat} {T : TypeId} {l : List UInt8} {a : Int} {i : Nat} {b : Int} {v0 v1 v2 v3 : Nat} (h : Lp16 w wx B C T l a i b v0 v1 v2 v3) (hb : Below wx.heap.size wx w3) : Lp16 w w3 B C T l a i b v0 v1 v2 v3 :=
  ⟨h.le, h.r.later hb, h.y.later hb, h.bel.trans (hb.mono h.bel.size), h.so, h.pl, h.ob⟩
set_option maxHeartbeats 3200000 in
set_option maxRecDepth 100000 in
theorem rgetBytes16 (A : Option Addr) (n c : Nat) (l : List UInt8) (a : Int) (w : World) (h : Sl w 1 A n c (cells l)) (hn : n ≤ 100000) (ha : -9223372036854775808 ≤ a ∧ a < 9223372036854775808) :
    Calls Tryz.prog 34 #[.slice A n c, .int .i64 a] w (fun e w' => e = .returned (.tuple #[.agg #[.int .i64 ((gB16 l a).1 : Nat), .int .u64 ((gB16 l a).2.1 : Nat), .int .i64 ((gB16 l a).2.2.1 : Nat), .int .i64 ((gB16 l a).2.2.2.1 : Nat)], .int .i64 ((gB16 l a).2.2.2.2 : Nat)]) ∧ Below w.heap.size w w') := by
  have hln := h.len
  rw [cells_length, Nat.mul_one] at hln
  have HLN := Lib.hid (show l.length ≤ 100000 from by omega)
  have HS := Lib.hid h
  have sz := Lib.hid (size_sc16 0 0 0 0)
  have hx := Sc16.new (w := w) (a := 0) (g := 0) (c := 0) (z := 0)
  have hba : Below w.heap.size w (w.alloc (.cells #[.int .i64 0, .int .u64 0, .int .i64 0, .int .i64 0] 38)) := (Below.refl _ _).alloc (Nat.le_refl _) _
  have hr := Rw.new (w.alloc (.cells #[.int .i64 0, .int .u64 0, .int .i64 0, .int .i64 0] 38)) #[.int .u64 0, .int .u64 0, .int .u64 0, .int .u64 0] 36 1 4 rfl (by decide)
  have hxb : Below (w.alloc (.cells #[.int .i64 0, .int .u64 0, .int .i64 0, .int .i64 0] 38)).heap.size (w.alloc (.cells #[.int .i64 0, .int .u64 0, .int .i64 0, .int .i64 0] 38)) ((w.alloc (.cells #[.int .i64 0, .int .u64 0, .int .i64 0, .int .i64 0] 38)).alloc (.cells #[.int .u64 0, .int .u64 0, .int .u64 0, .int .u64 0] 36)) := (Below.refl _ _).alloc (Nat.le_refl _) _
  have hll : Lp16 w ((w.alloc (.cells #[.int .i64 0, .int .u64 0, .int .i64 0, .int .i64 0] 38)).alloc (.cells #[.int .u64 0, .int .u64 0, .int .u64 0, .int .u64 0] 36)) w.heap.size (w.heap.size + 1) 36 l a 0 a 0 0 0 0 :=
    ⟨by decide, by rw [World.size_alloc] at hr; exact hr, hx.later hxb, hba.trans (hxb.mono hba.size), ⟨fun q => absurd q (by decide), fun q => absurd q (by decide), fun q => absurd q (by decide), fun q => absurd q (by decide)⟩, by simp [off16], by omega⟩
  have hr2 := Rw.new ((w.alloc (.cells #[.int .i64 0, .int .u64 0, .int .i64 0, .int .i64 0] 38)).alloc (.cells #[.int .u64 0, .int .u64 0, .int .u64 0, .int .u64 0] 36)) #[.int .i64 2, .int .i64 8, .int .i64 2, .int .i64 4] 3 1 4 rfl (by decide)
  rw [World.size_alloc, World.size_alloc] at hr2
  have hl2 := hll.later (w3 := ((w.alloc (.cells #[.int .i64 0, .int .u64 0, .int .i64 0, .int .i64 0] 38)).alloc (.cells #[.int .u64 0, .int .u64 0, .int .u64 0, .int .u64 0] 36)).alloc (.cells #[.int .i64 2, .int .i64 8, .int .i64 2, .int .i64 4] 3)) ((Below.refl _ _).alloc (Nat.le_refl _) _)
  clear hx hba hr hxb hln h hll
  go_enter Tryz.func34, Tryz.ntmps34
  go_wp2_with fail
  obtain ⟨B, hB⟩ : ∃ B, B = w.heap.size := ⟨_, rfl⟩
  obtain ⟨C, hC⟩ : ∃ C, C = w.heap.size + 1 := ⟨_, rfl⟩
  obtain ⟨D, hD⟩ : ∃ D, D = w.heap.size + 1 + 1 := ⟨_, rfl⟩
  obtain ⟨wz, hwz⟩ : ∃ wz, wz = ((w.alloc (.cells #[.int .i64 0, .int .u64 0, .int .i64 0, .int .i64 0] 38)).alloc (.cells #[.int .u64 0, .int .u64 0, .int .u64 0, .int .u64 0] 36)).alloc (.cells #[.int .i64 2, .int .i64 8, .int .i64 2, .int .i64 4] 3) := ⟨_, rfl⟩
  rw [← hwz] at hl2 hr2 ⊢
  rw [← hD] at hr2 ⊢
  rw [← hC] at hl2 ⊢
  rw [show Lp16 w wz w.heap.size C 36 l a 0 a 0 0 0 0 = Lp16 w wz B C 36 l a 0 a 0 0 0 0 from by rw [hB]] at hl2
  rw [← hB]
  have HL := Lib.hid hl2
  have HR2 := Lib.hid (show Rw wz D 3 1 4 4 [.int .i64 2, .int .i64 8, .int .i64 2, .int .i64 4] from hr2)
  have HND := Lib.hid (show D ≠ C from by omega)
  clear hl2 hr2 hwz hC hB hD
  go_loopw [1, 8] (fun av iv wx => ∃ (i : Nat) (b : Int) (v0 v1 v2 v3 : Nat), av = .int .i64 b ∧ iv = .int .i64 (i : Int) ∧ Lp16 w wx B C 36 l a i b v0 v1 v2 v3 ∧ Rw wx D 3 1 4 4 [.int .i64 2, .int .i64 8, .int .i64 2, .int .i64 4]) (fun _ iv _ => 4 - (intOf iv).toNat)
  case atStart => exact ⟨0, a, 0, 0, 0, 0, rfl, rfl, HL.out, HR2.out⟩
  case round =>
    obtain ⟨i, b, v0, v1, v2, v3, rfl, rfl, hl, hrw⟩ := hrel
    clear HL
    have HRW := Lib.hid hrw
    have HLP := Lib.hid hl
    rcases (show i = 0 ∨ i = 1 ∨ i = 2 ∨ i = 3 ∨ i = 4 from by have := hl.le; omega) with rfl | rfl | rfl | rfl | rfl
    · have HBA := Lib.hid (show b = a + 0 from hl.pl)
      obtain ⟨x, er, hxe⟩ : ∃ x er, getN16 l b 2 = (x, er) := ⟨_, _, rfl⟩
      have hg := rget_any16 A n c l b 2 wr (HS.out.below hl.bel (Nat.le_refl _))
      rw [hxe] at hg
      dsimp only at hg
      have HXE := Lib.hid (show getN16 l a 2 = (x, er) from by have e := HBA.out; rw [← hxe]; congr 1; omega)
      have hc := hl.r.cell (j := 0) rfl
      have hf := hl.r.free 0
      have hd := hrw.cell (j := 0) rfl
      have hd2 := fun v => (hrw.aside16 HND.out 0 v).cell (j := 0) rfl
      by_cases he : er = 0
      · subst he
        have hin := getN16_in (l := l) (at_ := b) (m := 2) (by rw [hxe])
        have b1 : 0 ≤ b := hin.1
        have b2 : b ≤ 100000 := by have := hin.2; have := HLN.out; omega
        clear hxe hl hin
        go_wp2_with fail
        refine hg.mono ?_; clear hg; rintro e w1 ⟨rfl, hw⟩
        obtain rfl : wr = w1 := hw
        go_wp2_with fail
        go_roundw
        case rel => exact ⟨1, _, x, v1, v2, v3, rfl, by first | rfl | go_num, HLP.out.next _ (by decide) rfl ⟨fun _ => HXE.out, fun q => absurd q (by decide), fun q => absurd q (by decide), fun q => absurd q (by decide)⟩ (by have := HBA.out; show b + 2 = a + 2; omega), HRW.out.aside16 HND.out _ _⟩
        case measure => simp [intOf]
      · have hz : ((er : Int) != 0) = true := by simp; omega
        have HE := Lib.hid (gB16_e0 HXE.out he)
        clear hxe hl he
        go_wp2_with fail
        refine hg.mono ?_; clear hg; rintro e w1 ⟨rfl, hw⟩
        obtain rfl : wr = w1 := hw
        go_wp2_with (refine at_none ?_; refine wpList_store_row (o := ⟨none, _, _, _, _, _⟩) rfl 38 (.tmp 4) (.tmp 29) rfl B #[.int .i64 0, .int .u64 0, .int .i64 0, .int .i64 0] rfl rfl 38 _ HLP.out.y sz.out rfl one_sc16 ?_)
        (try simp only [Exit.inBlock, Exit.then]); refine bodyPost_ret (results_cell_pair Tryz.results34 _ _ B 38 _ (0, 0) _ rfl (setRow_heap _ _ _ _ _ _ HLP.out.y) Tryz.underlying38 rfl sz.out) rfl ?_
        exact ⟨by rw [HE.out]; rfl, below_setRow HLP.out.bel HLP.out.ob.1 _⟩
    · have HBA := Lib.hid (show b = a + 2 from hl.pl)
      obtain ⟨x, er, hxe⟩ : ∃ x er, getN16 l b 8 = (x, er) := ⟨_, _, rfl⟩
      have hg := rget_any16 A n c l b 8 wr (HS.out.below hl.bel (Nat.le_refl _))
      rw [hxe] at hg
      dsimp only at hg
      have H0 := Lib.hid (hl.so.1 (by decide))
      have HXE := Lib.hid (show getN16 l (a + 2) 8 = (x, er) from by have e := HBA.out; rw [← hxe]; congr 1; omega)
      have hc := hl.r.cell (j := 1) rfl
      have hf := hl.r.free 1
      have hd := hrw.cell (j := 1) rfl
      have hd2 := fun v => (hrw.aside16 HND.out 1 v).cell (j := 1) rfl
      by_cases he : er = 0
      · subst he
        have hin := getN16_in (l := l) (at_ := b) (m := 8) (by rw [hxe])
        have b1 : 0 ≤ b := hin.1
        have b2 : b ≤ 100000 := by have := hin.2; have := HLN.out; omega
        clear hxe hl hin
        go_wp2_with fail
        refine hg.mono ?_; clear hg; rintro e w1 ⟨rfl, hw⟩
        obtain rfl : wr = w1 := hw
        go_wp2_with fail
        go_roundw
        case rel => exact ⟨2, _, v0, x, v2, v3, rfl, by first | rfl | go_num, HLP.out.next _ (by decide) rfl ⟨fun _ => H0.out, fun _ => HXE.out, fun q => absurd q (by decide), fun q => absurd q (by decide)⟩ (by have := HBA.out; show b + 8 = a + 10; omega), HRW.out.aside16 HND.out _ _⟩
        case measure => simp [intOf]
      · have hz : ((er : Int) != 0) = true := by simp; omega
        have HE := Lib.hid (gB16_e1 H0.out HXE.out he)
        clear hxe hl he
        go_wp2_with fail
        refine hg.mono ?_; clear hg; rintro e w1 ⟨rfl, hw⟩
        obtain rfl : wr = w1 := hw
        go_wp2_with (refine at_none ?_; refine wpList_store_row (o := ⟨none, _, _, _, _, _⟩) rfl 38 (.tmp 4) (.tmp 29) rfl B #[.int .i64 0, .int .u64 0, .int .i64 0, .int .i64 0] rfl rfl 38 _ HLP.out.y sz.out rfl one_sc16 ?_)
        (try simp only [Exit.inBlock, Exit.then]); refine bodyPost_ret (results_cell_pair Tryz.results34 _ _ B 38 _ (0, 0) _ rfl (setRow_heap _ _ _ _ _ _ HLP.out.y) Tryz.underlying38 rfl sz.out) rfl ?_
        exact ⟨by rw [HE.out]; rfl, below_setRow HLP.out.bel HLP.out.ob.1 _⟩
    · have HBA := Lib.hid (show b = a + 10 from hl.pl)
      obtain ⟨x, er, hxe⟩ : ∃ x er, getN16 l b 2 = (x, er) := ⟨_, _, rfl⟩
      have hg := rget_any16 A n c l b 2 wr (HS.out.below hl.bel (Nat.le_refl _))
      rw [hxe] at hg
      dsimp only at hg
      have H0 := Lib.hid (hl.so.1 (by decide))
      have H1 := Lib.hid (hl.so.2.1 (by decide))
      have HXE := Lib.hid (show getN16 l (a + 10) 2 = (x, er) from by have e := HBA.out; rw [← hxe]; congr 1; omega)
      have hc := hl.r.cell (j := 2) rfl
      have hf := hl.r.free 2
      have hd := hrw.cell (j := 2) rfl
      have hd2 := fun v => (hrw.aside16 HND.out 2 v).cell (j := 2) rfl
      by_cases he : er = 0
      · subst he
        have hin := getN16_in (l := l) (at_ := b) (m := 2) (by rw [hxe])
        have b1 : 0 ≤ b := hin.1
        have b2 : b ≤ 100000 := by have := hin.2; have := HLN.out; omega
        clear hxe hl hin
        go_wp2_with fail
        refine hg.mono ?_; clear hg; rintro e w1 ⟨rfl, hw⟩
        obtain rfl : wr = w1 := hw
        go_wp2_with fail
        go_roundw
        case rel => exact ⟨3, _, v0, v1, x, v3, rfl, by first | rfl | go_num, HLP.out.next _ (by decide) rfl ⟨fun _ => H0.out, fun _ => H1.out, fun _ => HXE.out, fun q => absurd q (by decide)⟩ (by have := HBA.out; show b + 2 = a + 12; omega), HRW.out.aside16 HND.out _ _⟩
        case measure => simp [intOf]
      · have hz : ((er : Int) != 0) = true := by simp; omega
        have HE := Lib.hid (gB16_e2 H0.out H1.out HXE.out he)
        clear hxe hl he
        go_wp2_with fail
        refine hg.mono ?_; clear hg; rintro e w1 ⟨rfl, hw⟩
        obtain rfl : wr = w1 := hw
        go_wp2_with (refine at_none ?_; refine wpList_store_row (o := ⟨none, _, _, _, _, _⟩) rfl 38 (.tmp 4) (.tmp 29) rfl B #[.int .i64 0, .int .u64 0, .int .i64 0, .int .i64 0] rfl rfl 38 _ HLP.out.y sz.out rfl one_sc16 ?_)
        (try simp only [Exit.inBlock, Exit.then]); refine bodyPost_ret (results_cell_pair Tryz.results34 _ _ B 38 _ (0, 0) _ rfl (setRow_heap _ _ _ _ _ _ HLP.out.y) Tryz.underlying38 rfl sz.out) rfl ?_
        exact ⟨by rw [HE.out]; rfl, below_setRow HLP.out.bel HLP.out.ob.1 _⟩
    · have HBA := Lib.hid (show b = a + 12 from hl.pl)
      obtain ⟨x, er, hxe⟩ : ∃ x er, getN16 l b 4 = (x, er) := ⟨_, _, rfl⟩
      have hg := rget_any16 A n c l b 4 wr (HS.out.below hl.bel (Nat.le_refl _))
      rw [hxe] at hg
      dsimp only at hg
      have H0 := Lib.hid (hl.so.1 (by decide))
      have H1 := Lib.hid (hl.so.2.1 (by decide))
      have H2 := Lib.hid (hl.so.2.2.1 (by decide))
      have HXE := Lib.hid (show getN16 l (a + 12) 4 = (x, er) from by have e := HBA.out; rw [← hxe]; congr 1; omega)
      have hc := hl.r.cell (j := 3) rfl
      have hf := hl.r.free 3
      have hd := hrw.cell (j := 3) rfl
      have hd2 := fun v => (hrw.aside16 HND.out 3 v).cell (j := 3) rfl
      by_cases he : er = 0
      · subst he
        have hin := getN16_in (l := l) (at_ := b) (m := 4) (by rw [hxe])
        have b1 : 0 ≤ b := hin.1
        have b2 : b ≤ 100000 := by have := hin.2; have := HLN.out; omega
        clear hxe hl hin
        go_wp2_with fail
        refine hg.mono ?_; clear hg; rintro e w1 ⟨rfl, hw⟩
        obtain rfl : wr = w1 := hw
        go_wp2_with fail
        go_roundw
        case rel => exact ⟨4, _, v0, v1, v2, x, rfl, by first | rfl | go_num, HLP.out.next _ (by decide) rfl ⟨fun _ => H0.out, fun _ => H1.out, fun _ => H2.out, fun _ => HXE.out⟩ (by have := HBA.out; show b + 4 = a + 16; omega), HRW.out.aside16 HND.out _ _⟩
        case measure => simp [intOf]
      · have hz : ((er : Int) != 0) = true := by simp; omega
        have HE := Lib.hid (gB16_e3 H0.out H1.out H2.out HXE.out he)
        clear hxe hl he
        go_wp2_with fail
        refine hg.mono ?_; clear hg; rintro e w1 ⟨rfl, hw⟩
        obtain rfl : wr = w1 := hw
        go_wp2_with (refine at_none ?_; refine wpList_store_row (o := ⟨none, _, _, _, _, _⟩) rfl 38 (.tmp 4) (.tmp 29) rfl B #[.int .i64 0, .int .u64 0, .int .i64 0, .int .i64 0] rfl rfl 38 _ HLP.out.y sz.out rfl one_sc16 ?_)
        (try simp only [Exit.inBlock, Exit.then]); refine bodyPost_ret (results_cell_pair Tryz.results34 _ _ B 38 _ (0, 0) _ rfl (setRow_heap _ _ _ _ _ _ HLP.out.y) Tryz.underlying38 rfl sz.out) rfl ?_
        exact ⟨by rw [HE.out]; rfl, below_setRow HLP.out.bel HLP.out.ob.1 _⟩
    · obtain ⟨so0, so1, so2, so3⟩ := hl.so
      have HE := Lib.hid (gB16_ok (so0 (by decide)) (so1 (by decide)) (so2 (by decide)) (so3 (by decide)))
      have y0 : v0 < 65536 := by have h := getN16_lt l a 2; rw [show getN16 l a ((2 : Nat) : Int) = (v0, 0) from so0 (by decide)] at h; exact h
      have y2 : v2 < 65536 := by have h := getN16_lt l (a + 10) 2; rw [show getN16 l (a + 10) ((2 : Nat) : Int) = (v2, 0) from so2 (by decide)] at h; exact h
      have y3 : v3 < 4294967296 := by have h := getN16_lt l (a + 12) 4; rw [show getN16 l (a + 12) ((4 : Nat) : Int) = (v3, 0) from so3 (by decide)] at h; exact h
      have hw0 : wrap64 (v0 : Int) = (v0 : Int) := by unfold wrap64; omega
      have hw2 : wrap64 (v2 : Int) = (v2 : Int) := by unfold wrap64; omega
      have hw3 : wrap64 (v3 : Int) = (v3 : Int) := by unfold wrap64; omega
      have c0 := hl.r.cell (j := 0) rfl
      have c1 := hl.r.cell (j := 1) rfl
      have c2 := hl.r.cell (j := 2) rfl
      have c3 := hl.r.cell (j := 3) rfl
      have sz := Lib.hid (size_sc16 (v0 : Int) (v1 : Int) (v2 : Int) (v3 : Int))
      clear so0 so1 so2 so3 hl y0 y2 y3
      have HI0 := Lib.hid (show IntKind.i64.wrap (v0 : Int) = (v0 : Int) from by rw [IntKind.wrap_i64]; have h := hw0; unfold wrap64 at h; omega)
      have HI2 := Lib.hid (show IntKind.i64.wrap (v2 : Int) = (v2 : Int) from by rw [IntKind.wrap_i64]; have h := hw2; unfold wrap64 at h; omega)
      have HI3 := Lib.hid (show IntKind.i64.wrap (v3 : Int) = (v3 : Int) from by rw [IntKind.wrap_i64]; have h := hw3; unfold wrap64 at h; omega)
      clear c0 c1 c2 c3 hw0 hw2 hw3
      have HLD := Lib.hid (HLP.out.later (w3 := wr.drew) (Below.drew (Below.refl _ _)))
      have HNB := Lib.hid (show ¬ C = B from fun e => HLP.out.ob.2.2 e.symm)
      have C0 := Lib.hid (HLD.out.r.cell (j := 0) rfl)
      have C1 := Lib.hid (HLD.out.r.cell (j := 1) rfl)
      have C2 := Lib.hid (HLD.out.r.cell (j := 2) rfl)
      have C3 := Lib.hid (HLD.out.r.cell (j := 3) rfl)
      go_wp2_with fail
      refine wp_region_held_drew (S := fun w' => Fr (fun b => b = B) wr.drew w') (by kernel_rfl) (Fr.refl _ _) (fun hHeld => ?_)
      clear hHeld
      refine wpAnyH_take (i := 0) (oi := ⟨some 41, _, _, _, _, _⟩) (v := ?vf0) rfl (by kernel_rfl) (by kernel_rfl) (by kernel_rfl) (fun _ _ _ h => h) (Or.inl ⟨by rfl, ?yf0⟩) (Fr.refl _ _) ?rf0
      case yf0 =>
        intro wq hSw
        (try dsimp only at hSw)
        first | (go_simp; done) | (go_simp; with_reducible rfl)
      try simp only [Act.put, List.setIfInBounds_toArray, List.set_cons_zero, List.set_cons_succ]
      refine wpAnyH_take (i := 1) (oi := ⟨some 42, _, _, _, _, _⟩) (v := ?vf1) rfl (by kernel_rfl) (by kernel_rfl) (by kernel_rfl) (fun _ _ _ h => h) (Or.inl ⟨by rfl, ?yf1⟩) (Fr.refl _ _) ?rf1
      case yf1 =>
        intro wq hSw
        (try dsimp only at hSw)
        first | (go_simp; done) | (go_simp; with_reducible rfl)
      try simp only [Act.put, List.setIfInBounds_toArray, List.set_cons_zero, List.set_cons_succ]
      refine wpAnyH_take (i := 2) (oi := ⟨some 43, _, _, _, _, _⟩) (v := ?vf2) rfl (by kernel_rfl) (by kernel_rfl) (by kernel_rfl) (fun _ _ _ h => h) (Or.inl ⟨by rfl, ?yf2⟩) (Fr.refl _ _) ?rf2
      case yf2 =>
        intro wq hSw
        (try dsimp only at hSw)
        have hq := hSw.cell_some (C0.out) (fun h => HNB.out h)
        first | (go_simp; done) | (go_simp; with_reducible rfl)
      try simp only [Act.put, List.setIfInBounds_toArray, List.set_cons_zero, List.set_cons_succ]
      refine wpAnyH_take (i := 3) (oi := ⟨some 44, _, _, _, _, _⟩) (v := ?vf3) rfl (by kernel_rfl) (by kernel_rfl) (by kernel_rfl) (fun _ _ _ h => h) (Or.inl ⟨by rfl, ?yf3⟩) (Fr.refl _ _) ?rf3
      case yf3 =>
        intro wq hSw
        (try dsimp only at hSw)
        have hq := HI0.out
        first | (go_simp; done) | (go_simp; with_reducible rfl)
      try simp only [Act.put, List.setIfInBounds_toArray, List.set_cons_zero, List.set_cons_succ]
      refine wpAnyH_take (i := 4) (oi := ⟨some 45, _, _, _, _, _⟩) (v := ?vf4) rfl (by kernel_rfl) (by kernel_rfl) (by kernel_rfl) (fun _ _ _ h => h) (Or.inl ⟨by rfl, ?yf4⟩) (Fr.refl _ _) ?rf4
      case yf4 =>
        intro wq hSw
        (try dsimp only at hSw)
        first | (go_simp; done) | (go_simp; with_reducible rfl)
      try simp only [Act.put, List.setIfInBounds_toArray, List.set_cons_zero, List.set_cons_succ]
      refine wpAnyH_take (i := 5) (oi := ⟨some 46, _, _, _, _, _⟩) (v := ?vf5) rfl (by kernel_rfl) (by kernel_rfl) (by kernel_rfl) (fun _ _ _ h => h) (Or.inl ⟨by rfl, ?yf5⟩) (Fr.refl _ _) ?rf5
      case yf5 =>
        intro wq hSw
        (try dsimp only at hSw)
        first | (go_simp; done) | (go_simp; with_reducible rfl)
      try simp only [Act.put, List.setIfInBounds_toArray, List.set_cons_zero, List.set_cons_succ]
      refine wpAnyH_take (i := 6) (oi := ⟨some 47, _, _, _, _, _⟩) (v := ?vf6) rfl (by kernel_rfl) (by kernel_rfl) (by kernel_rfl) (fun _ _ _ h => h) (Or.inl ⟨by rfl, ?yf6⟩) (Fr.refl _ _) ?rf6
      case yf6 =>
        intro wq hSw
        (try dsimp only at hSw)
        have hq := hSw.cell_some (C1.out) (fun h => HNB.out h)
        first | (go_simp; done) | (go_simp; with_reducible rfl)
      try simp only [Act.put, List.setIfInBounds_toArray, List.set_cons_zero, List.set_cons_succ]
      refine wpAnyH_take (i := 7) (oi := ⟨some 48, _, _, _, _, _⟩) (v := ?vf7) rfl (by kernel_rfl) (by kernel_rfl) (by kernel_rfl) (fun _ _ _ h => h) (Or.inl ⟨by rfl, ?yf7⟩) (Fr.refl _ _) ?rf7
      case yf7 =>
        intro wq hSw
        (try dsimp only at hSw)
        first | (go_simp; done) | (go_simp; with_reducible rfl)
      try simp only [Act.put, List.setIfInBounds_toArray, List.set_cons_zero, List.set_cons_succ]
      refine wpAnyH_take (i := 8) (oi := ⟨some 49, _, _, _, _, _⟩) (v := ?vf8) rfl (by kernel_rfl) (by kernel_rfl) (by kernel_rfl) (fun _ _ _ h => h) (Or.inl ⟨by rfl, ?yf8⟩) (Fr.refl _ _) ?rf8
      case yf8 =>
        intro wq hSw
        (try dsimp only at hSw)
        first | (go_simp; done) | (go_simp; with_reducible rfl)
      try simp only [Act.put, List.setIfInBounds_toArray, List.set_cons_zero, List.set_cons_succ]
      refine wpAnyH_take (i := 9) (oi := ⟨some 50, _, _, _, _, _⟩) (v := ?vf9) rfl (by kernel_rfl) (by kernel_rfl) (by kernel_rfl) (fun _ _ _ h => h) (Or.inl ⟨by rfl, ?yf9⟩) (Fr.refl _ _) ?rf9
      case yf9 =>
        intro wq hSw
        (try dsimp only at hSw)
        have hq := hSw.cell_some (C2.out) (fun h => HNB.out h)
        first | (go_simp; done) | (go_simp; with_reducible rfl)
      try simp only [Act.put, List.setIfInBounds_toArray, List.set_cons_zero, List.set_cons_succ]
      refine wpAnyH_take (i := 10) (oi := ⟨some 51, _, _, _, _, _⟩) (v := ?vf10) rfl (by kernel_rfl) (by kernel_rfl) (by kernel_rfl) (fun _ _ _ h => h) (Or.inl ⟨by rfl, ?yf10⟩) (Fr.refl _ _) ?rf10
      case yf10 =>
        intro wq hSw
        (try dsimp only at hSw)
        have hq := HI2.out
        first | (go_simp; done) | (go_simp; with_reducible rfl)
      try simp only [Act.put, List.setIfInBounds_toArray, List.set_cons_zero, List.set_cons_succ]
      refine wpAnyH_take (i := 11) (oi := ⟨some 52, _, _, _, _, _⟩) (v := ?vf11) rfl (by kernel_rfl) (by kernel_rfl) (by kernel_rfl) (fun _ _ _ h => h) (Or.inl ⟨by rfl, ?yf11⟩) (Fr.refl _ _) ?rf11
      case yf11 =>
        intro wq hSw
        (try dsimp only at hSw)
        first | (go_simp; done) | (go_simp; with_reducible rfl)
      try simp only [Act.put, List.setIfInBounds_toArray, List.set_cons_zero, List.set_cons_succ]
      refine wpAnyH_take (i := 12) (oi := ⟨some 53, _, _, _, _, _⟩) (v := ?vf12) rfl (by kernel_rfl) (by kernel_rfl) (by kernel_rfl) (fun _ _ _ h => h) (Or.inl ⟨by rfl, ?yf12⟩) (Fr.refl _ _) ?rf12
      case yf12 =>
        intro wq hSw
        (try dsimp only at hSw)
        first | (go_simp; done) | (go_simp; with_reducible rfl)
      try simp only [Act.put, List.setIfInBounds_toArray, List.set_cons_zero, List.set_cons_succ]
      refine wpAnyH_take (i := 13) (oi := ⟨some 54, _, _, _, _, _⟩) (v := ?vf13) rfl (by kernel_rfl) (by kernel_rfl) (by kernel_rfl) (fun _ _ _ h => h) (Or.inl ⟨by rfl, ?yf13⟩) (Fr.refl _ _) ?rf13
      case yf13 =>
        intro wq hSw
        (try dsimp only at hSw)
        have hq := hSw.cell_some (C3.out) (fun h => HNB.out h)
        first | (go_simp; done) | (go_simp; with_reducible rfl)
      try simp only [Act.put, List.setIfInBounds_toArray, List.set_cons_zero, List.set_cons_succ]
      refine wpAnyH_take (i := 14) (oi := ⟨some 55, _, _, _, _, _⟩) (v := ?vf14) rfl (by kernel_rfl) (by kernel_rfl) (by kernel_rfl) (fun _ _ _ h => h) (Or.inl ⟨by rfl, ?yf14⟩) (Fr.refl _ _) ?rf14
      case yf14 =>
        intro wq hSw
        (try dsimp only at hSw)
        have hq := HI3.out
        first | (go_simp; done) | (go_simp; with_reducible rfl)
      try simp only [Act.put, List.setIfInBounds_toArray, List.set_cons_zero, List.set_cons_succ]
      refine wpAnyH_take (i := 15) (oi := ⟨some 56, _, _, _, _, _⟩) (v := ?vf15) rfl (by kernel_rfl) (by kernel_rfl) (by kernel_rfl) (fun _ _ _ h => h) (Or.inl ⟨by rfl, ?yf15⟩) (Fr.refl _ _) ?rf15
      case yf15 =>
        intro wq hSw
        (try dsimp only at hSw)
        first | (go_simp; done) | (go_simp; with_reducible rfl)
      try simp only [Act.put, List.setIfInBounds_toArray, List.set_cons_zero, List.set_cons_succ]
      refine wpAnyH_ready (rs := [16]) (by kernel_rfl) (by simp) ?_
      refine AllReadyH.cons (o := ⟨none, _, _, _, _, _⟩) rfl (fun K hK => ?_) AllReadyH.nil
      refine wp_store_row (o := ⟨none, _, _, _, _, _⟩) 38 (.tmp 4) (.tmp 56) rfl B #[.int .i64 (v0 : Int), .int .u64 (v1 : Int), .int .i64 (v2 : Int), .int .i64 (v3 : Int)] rfl rfl 38 _ HLD.out.y sz.out rfl one_sc16 ?_
      have hy : Sc16 (wr.drew.setRow B #[.int .i64 (v0 : Int), .int .u64 (v1 : Int), .int .i64 (v2 : Int), .int .i64 (v3 : Int)]) B (v0 : Int) (v1 : Int) (v2 : Int) (v3 : Int) := setRow_heap _ _ _ _ _ _ HLD.out.y
      have hfr : Fr (fun b => b = B) wr.drew (wr.drew.setRow B #[.int .i64 (v0 : Int), .int .u64 (v1 : Int), .int .i64 (v2 : Int), .int .i64 (v3 : Int)]) := Fr.setRow1 _
      have hbz := below_setRow HLD.out.bel HLD.out.ob.1 #[.int .i64 (v0 : Int), .int .u64 (v1 : Int), .int .i64 (v2 : Int), .int .i64 (v3 : Int)]
      obtain ⟨w9, hv⟩ : ∃ x, x = wr.drew.setRow B #[.int .i64 (v0 : Int), .int .u64 (v1 : Int), .int .i64 (v2 : Int), .int .i64 (v3 : Int)] := ⟨_, rfl⟩
      rw [← hv] at hy hfr hbz ⊢
      have HY := Lib.hid hy
      have BZ := Lib.hid hbz
      clear hv hy hbz
      refine hK.out _ _ hfr (fun hHeld => ?_)
      clear hK K hHeld
      try simp only [Act.put]
      refine wpAnyH_re (S' := fun w' => Fr (fun b => b = B) w9 w') (fun w' h => hfr.trans h) ?_
      clear hfr
      refine wpAnyH_take (i := 17) (oi := ⟨some 5, _, _, _, _, _⟩) (v := ?vf17) rfl (by kernel_rfl) (by kernel_rfl) (by kernel_rfl) (fun _ _ _ h => h) (Or.inl ⟨by rfl, ?yf17⟩) (Fr.refl _ _) ?rf17
      case yf17 =>
        intro wq hSw
        (try dsimp only at hSw)
        first | (go_simp; done) | (go_simp; with_reducible rfl)
      try simp only [Act.put, List.setIfInBounds_toArray, List.set_cons_zero, List.set_cons_succ]
      refine wpAnyH_done (by kernel_rfl) ?_ _
      go_wp2_with fail
      (try simp only [Exit.inBlock, Exit.then]); refine bodyPost_ret (results_cell_pair Tryz.results34 _ _ B 38 _ (0, 0) _ rfl HY.out Tryz.underlying38 rfl sz.out) rfl ?_
      exact ⟨by rw [HE.out]; rfl, BZ.out⟩
end Go.Proofs.YtokbhgbajdomnaaGreatDoor

namespace Go.Proofs.YtokbhgbajdomnaaGreatDoor
open Go.RowKit Go.Proofs
set_option linter.unusedVariables false
set_option maxRecDepth 20000
set_option maxHeartbeats 1600000
theorem rputBytes16 (A : Option Addr) (n c : Nat) (l : List UInt8) (a : Int) (g : Nat) (hg : g < 18446744073709551616) (cn z : Int) (w : World) (h : Sl w 1 A n c (cells l)) (hn : n ≤ 100000) :
    Calls Tryz.prog 35 #[.slice A n c, .agg #[.int .i64 a, .int .u64 (g : Int), .int .i64 cn, .int .i64 z]] w (RetBytes w.heap.size w (l ++ scB a g cn z)) := by
  have hx : Sc16 (w.alloc (.cells #[.int .i64 a, .int .u64 (g : Int), .int .i64 cn, .int .i64 z] 38)) w.heap.size a (g : Int) cn z := Sc16.new
  have hb : Below w.heap.size w (w.alloc (.cells #[.int .i64 a, .int .u64 (g : Int), .int .i64 cn, .int .i64 z] 38)) := (Below.refl _ _).alloc (Nat.le_refl _) _
  have hl := h.len
  rw [cells_length, Nat.mul_one] at hl
  have HLN := Lib.hid hl
  have HS0 := Lib.hid h
  clear h hl
  go_enter Tryz.func35, Tryz.ntmps35
  go_wp2_with fail
  obtain ⟨wa, hwa⟩ : ∃ x, x = w.alloc (.cells #[.int .i64 a, .int .u64 (g : Int), .int .i64 cn, .int .i64 z] 38) := ⟨_, rfl⟩
  obtain ⟨B, hB⟩ : ∃ b, b = w.heap.size := ⟨_, rfl⟩
  rw [← hwa] at hx hb ⊢
  rw [show Sc16 wa w.heap.size a (g : Int) cn z = Sc16 wa B a (g : Int) cn z from by rw [hB]] at hx
  rw [← hB]
  have hdr : Below wa.heap.size wa wa.drew := (Below.drew (Below.refl _ _))
  have XX := Lib.hid (hx.later hdr)
  have BL := Lib.hid (hb.trans (hdr.mono hb.size))
  clear hx hb hwa hB hdr
  refine wp_region_held_drew (S := fun w' => Fr (fun _ => False) wa.drew w') (by kernel_rfl) (Fr.refl _ _) (fun hHeld => ?_)
  clear hHeld
  refine wpAnyH_take (i := 0) (oi := ⟨some 6, _, _, _, _, _⟩) (v := ?vf0) rfl (by kernel_rfl) (by kernel_rfl) (by kernel_rfl) (fun _ _ _ h => h) (Or.inl ⟨by rfl, ?yf0⟩) (Fr.refl _ _) ?rf0
  case yf0 =>
    intro wq hSw
    (try dsimp only at hSw)
    first | (go_simp; done) | (go_simp; with_reducible rfl)
  try simp only [Act.put, List.setIfInBounds_toArray, List.set_cons_zero, List.set_cons_succ]
  refine wpAnyH_take (i := 1) (oi := ⟨some 7, _, _, _, _, _⟩) (v := ?vf1) rfl (by kernel_rfl) (by kernel_rfl) (by kernel_rfl) (fun _ _ _ h => h) (Or.inl ⟨by rfl, ?yf1⟩) (Fr.refl _ _) ?rf1
  case yf1 =>
    intro wq hSw
    (try dsimp only at hSw)
    first | (go_simp; done) | (go_simp; with_reducible rfl)
  try simp only [Act.put, List.setIfInBounds_toArray, List.set_cons_zero, List.set_cons_succ]
  refine wpAnyH_take (i := 2) (oi := ⟨some 8, _, _, _, _, _⟩) (v := ?vf2) rfl (by kernel_rfl) (by kernel_rfl) (by kernel_rfl) (fun _ _ _ h => h) (Or.inl ⟨by rfl, ?yf2⟩) (Fr.refl _ _) ?rf2
  case yf2 =>
    intro wq hSw
    (try dsimp only at hSw)
    have hq := hSw.cell_some (XX.out.c0) (fun h => h)
    first | (go_simp; done) | (go_simp; with_reducible rfl)
  try simp only [Act.put, List.setIfInBounds_toArray, List.set_cons_zero, List.set_cons_succ]
  refine wpAnyH_take (i := 3) (oi := ⟨some 9, _, _, _, _, _⟩) (v := ?vf3) rfl (by kernel_rfl) (by kernel_rfl) (by kernel_rfl) (fun _ _ _ h => h) (Or.inl ⟨by rfl, ?yf3⟩) (Fr.refl _ _) ?rf3
  case yf3 =>
    intro wq hSw
    (try dsimp only at hSw)
    have hq := run_cvz16 a wq
    first | (go_simp; done) | (go_simp; with_reducible rfl)
  try simp only [Act.put, List.setIfInBounds_toArray, List.set_cons_zero, List.set_cons_succ]
  refine wpAnyH_take (i := 5) (oi := ⟨some 11, _, _, _, _, _⟩) (v := ?vf5) rfl (by kernel_rfl) (by kernel_rfl) (by kernel_rfl) (fun _ _ _ h => h) (Or.inl ⟨by rfl, ?yf5⟩) (Fr.refl _ _) ?rf5
  case yf5 =>
    intro wq hSw
    (try dsimp only at hSw)
    first | (go_simp; done) | (go_simp; with_reducible rfl)
  try simp only [Act.put, List.setIfInBounds_toArray, List.set_cons_zero, List.set_cons_succ]
  refine wpAnyH_take (i := 6) (oi := ⟨some 12, _, _, _, _, _⟩) (v := ?vf6) rfl (by kernel_rfl) (by kernel_rfl) (by kernel_rfl) (fun _ _ _ h => h) (Or.inl ⟨by rfl, ?yf6⟩) (Fr.refl _ _) ?rf6
  case yf6 =>
    intro wq hSw
    (try dsimp only at hSw)
    have hq := hSw.cell_some (XX.out.c1) (fun h => h)
    first | (go_simp; done) | (go_simp; with_reducible rfl)
  try simp only [Act.put, List.setIfInBounds_toArray, List.set_cons_zero, List.set_cons_succ]
  refine wpAnyH_ready (rs := [4]) (by kernel_rfl) (by simp) ?_
  refine AllReadyH.cons (o := ⟨some 10, _, _, _, _, _⟩) rfl (fun K hK => ?_) AllReadyH.nil
  go_simp
  have hp := rput_any A n c l 2 (u64N a) wa.drew (HS0.out.below BL.out (Nat.le_refl _)) (by omega) (u64N_lt a)
  rw [if_pos (by decide)] at hp
  refine hp.mono ?_; clear hp; rintro e w1 ⟨A1, n1, c1, rfl, hs, hb⟩
  have hfr : Fr (fun _ => False) wa.drew w1 := Fr.of_below hb
  have hl := hs.len
  rw [cells_length, Nat.mul_one, List.length_append, le_length] at hl
  have HL1 := Lib.hid (show n1 ≤ 100016 from by have h0 := HLN.out; have h9 := HLN.out; simp at hl; omega)
  have XX := Lib.hid (XX.out.later hb)
  have BL := Lib.hid (BL.out.trans (hb.mono BL.out.size))
  have HS1 := Lib.hid hs
  clear hs hb hl
  go_wp2_with fail
  refine hK.out _ _ hfr (fun hHeld => ?_)
  clear hK K hHeld
  try simp only [Act.put, List.setIfInBounds_toArray, List.set_cons_zero, List.set_cons_succ]
  refine wpAnyH_re (S' := fun w' => Fr (fun _ => False) w1 w') (fun w' h => hfr.trans h) ?_
  clear hfr
  refine wpAnyH_ready (rs := [7]) (by kernel_rfl) (by simp) ?_
  refine AllReadyH.cons (o := ⟨some 13, _, _, _, _, _⟩) rfl (fun K hK => ?_) AllReadyH.nil
  go_simp
  have hp := rput_any A1 n1 c1 (l ++ le (Int.toNat 2) (u64N a)) 8 g w1 (HS1.out) (by have := HL1.out; omega) hg
  rw [if_pos (by decide)] at hp
  refine hp.mono ?_; clear hp; rintro e w2 ⟨A2, n2, c2, rfl, hs, hb⟩
  have hfr : Fr (fun _ => False) w1 w2 := Fr.of_below hb
  have hl := hs.len
  rw [cells_length, Nat.mul_one, List.length_append, le_length] at hl
  have HL2 := Lib.hid (show n2 ≤ 100016 from by have h0 := HL1.out; have h9 := HLN.out; simp [le_length] at hl; omega)
  have XX := Lib.hid (XX.out.later hb)
  have BL := Lib.hid (BL.out.trans (hb.mono BL.out.size))
  have HS2 := Lib.hid hs
  clear hs hb hl
  go_wp2_with fail
  refine hK.out _ _ hfr (fun hHeld => ?_)
  clear hK K hHeld
  try simp only [Act.put, List.setIfInBounds_toArray, List.set_cons_zero, List.set_cons_succ]
  refine wpAnyH_re (S' := fun w' => Fr (fun _ => False) w2 w') (fun w' h => hfr.trans h) ?_
  clear hfr
  refine wpAnyH_take (i := 8) (oi := ⟨some 5, _, _, _, _, _⟩) (v := ?vf8) rfl (by kernel_rfl) (by kernel_rfl) (by kernel_rfl) (fun _ _ _ h => h) (Or.inl ⟨by rfl, ?yf8⟩) (Fr.refl _ _) ?rf8
  case yf8 =>
    intro wq hSw
    (try dsimp only at hSw)
    first | (go_simp; done) | (go_simp; with_reducible rfl)
  try simp only [Act.put, List.setIfInBounds_toArray, List.set_cons_zero, List.set_cons_succ]
  refine wpAnyH_done (by kernel_rfl) ?_ _
  have hdr : Below w2.heap.size w2 w2.drew := (Below.drew (Below.refl _ _))
  have XX := Lib.hid (XX.out.later hdr)
  have BL := Lib.hid (BL.out.trans (hdr.mono BL.out.size))
  have HS2 := Lib.hid (HS2.out.below hdr (Nat.le_refl _))
  clear hdr
  go_wp2_with fail
  refine wp_region_held_drew (S := fun w' => Fr (fun _ => False) w2.drew w') (by kernel_rfl) (Fr.refl _ _) (fun hHeld => ?_)
  clear hHeld
  refine wpAnyH_take (i := 0) (oi := ⟨some 14, _, _, _, _, _⟩) (v := ?vg0) rfl (by kernel_rfl) (by kernel_rfl) (by kernel_rfl) (fun _ _ _ h => h) (Or.inl ⟨by rfl, ?yg0⟩) (Fr.refl _ _) ?rg0
  case yg0 =>
    intro wq hSw
    (try dsimp only at hSw)
    first | (go_simp; done) | (go_simp; with_reducible rfl)
  try simp only [Act.put, List.setIfInBounds_toArray, List.set_cons_zero, List.set_cons_succ]
  refine wpAnyH_take (i := 1) (oi := ⟨some 15, _, _, _, _, _⟩) (v := ?vg1) rfl (by kernel_rfl) (by kernel_rfl) (by kernel_rfl) (fun _ _ _ h => h) (Or.inl ⟨by rfl, ?yg1⟩) (Fr.refl _ _) ?rg1
  case yg1 =>
    intro wq hSw
    (try dsimp only at hSw)
    first | (go_simp; done) | (go_simp; with_reducible rfl)
  try simp only [Act.put, List.setIfInBounds_toArray, List.set_cons_zero, List.set_cons_succ]
  refine wpAnyH_take (i := 2) (oi := ⟨some 16, _, _, _, _, _⟩) (v := ?vg2) rfl (by kernel_rfl) (by kernel_rfl) (by kernel_rfl) (fun _ _ _ h => h) (Or.inl ⟨by rfl, ?yg2⟩) (Fr.refl _ _) ?rg2
  case yg2 =>
    intro wq hSw
    (try dsimp only at hSw)
    have hq := hSw.cell_some (XX.out.c2) (fun h => h)
    first | (go_simp; done) | (go_simp; with_reducible rfl)
  try simp only [Act.put, List.setIfInBounds_toArray, List.set_cons_zero, List.set_cons_succ]
  refine wpAnyH_take (i := 3) (oi := ⟨some 17, _, _, _, _, _⟩) (v := ?vg3) rfl (by kernel_rfl) (by kernel_rfl) (by kernel_rfl) (fun _ _ _ h => h) (Or.inl ⟨by rfl, ?yg3⟩) (Fr.refl _ _) ?rg3
  case yg3 =>
    intro wq hSw
    (try dsimp only at hSw)
    have hq := run_cvz16 cn wq
    first | (go_simp; done) | (go_simp; with_reducible rfl)
  try simp only [Act.put, List.setIfInBounds_toArray, List.set_cons_zero, List.set_cons_succ]
  refine wpAnyH_take (i := 5) (oi := ⟨some 19, _, _, _, _, _⟩) (v := ?vg5) rfl (by kernel_rfl) (by kernel_rfl) (by kernel_rfl) (fun _ _ _ h => h) (Or.inl ⟨by rfl, ?yg5⟩) (Fr.refl _ _) ?rg5
  case yg5 =>
    intro wq hSw
    (try dsimp only at hSw)
    first | (go_simp; done) | (go_simp; with_reducible rfl)
  try simp only [Act.put, List.setIfInBounds_toArray, List.set_cons_zero, List.set_cons_succ]
  refine wpAnyH_take (i := 6) (oi := ⟨some 20, _, _, _, _, _⟩) (v := ?vg6) rfl (by kernel_rfl) (by kernel_rfl) (by kernel_rfl) (fun _ _ _ h => h) (Or.inl ⟨by rfl, ?yg6⟩) (Fr.refl _ _) ?rg6
  case yg6 =>
    intro wq hSw
    (try dsimp only at hSw)
    have hq := hSw.cell_some (XX.out.c3) (fun h => h)
    first | (go_simp; done) | (go_simp; with_reducible rfl)
  try simp only [Act.put, List.setIfInBounds_toArray, List.set_cons_zero, List.set_cons_succ]
  refine wpAnyH_take (i := 7) (oi := ⟨some 21, _, _, _, _, _⟩) (v := ?vg7) rfl (by kernel_rfl) (by kernel_rfl) (by kernel_rfl) (fun _ _ _ h => h) (Or.inl ⟨by rfl, ?yg7⟩) (Fr.refl _ _) ?rg7
  case yg7 =>
    intro wq hSw
    (try dsimp only at hSw)
    have hq := run_cvz16 z wq
    first | (go_simp; done) | (go_simp; with_reducible rfl)
  try simp only [Act.put, List.setIfInBounds_toArray, List.set_cons_zero, List.set_cons_succ]
  refine wpAnyH_ready (rs := [4]) (by kernel_rfl) (by simp) ?_
  refine AllReadyH.cons (o := ⟨some 18, _, _, _, _, _⟩) rfl (fun K hK => ?_) AllReadyH.nil
  go_simp
  have hp := rput_any A2 n2 c2 ((l ++ le (Int.toNat 2) (u64N a)) ++ le (Int.toNat 8) g) 2 (u64N cn) w2.drew (HS2.out) (by have := HL2.out; omega) (u64N_lt cn)
  rw [if_pos (by decide)] at hp
  refine hp.mono ?_; clear hp; rintro e w3 ⟨A3, n3, c3, rfl, hs, hb⟩
  have hfr : Fr (fun _ => False) w2.drew w3 := Fr.of_below hb
  have hl := hs.len
  rw [cells_length, Nat.mul_one, List.length_append, le_length] at hl
  have HL3 := Lib.hid (show n3 ≤ 100016 from by have h0 := HL2.out; have h9 := HLN.out; simp [le_length] at hl; omega)
  have XX := Lib.hid (XX.out.later hb)
  have BL := Lib.hid (BL.out.trans (hb.mono BL.out.size))
  have HS3 := Lib.hid hs
  clear hs hb hl
  go_wp2_with fail
  refine hK.out _ _ hfr (fun hHeld => ?_)
  clear hK K hHeld
  try simp only [Act.put, List.setIfInBounds_toArray, List.set_cons_zero, List.set_cons_succ]
  refine wpAnyH_re (S' := fun w' => Fr (fun _ => False) w3 w') (fun w' h => hfr.trans h) ?_
  clear hfr
  refine wpAnyH_ready (rs := [8]) (by kernel_rfl) (by simp) ?_
  refine AllReadyH.cons (o := ⟨some 22, _, _, _, _, _⟩) rfl (fun K hK => ?_) AllReadyH.nil
  go_simp
  have hp := rput_any A3 n3 c3 (((l ++ le (Int.toNat 2) (u64N a)) ++ le (Int.toNat 8) g) ++ le (Int.toNat 2) (u64N cn)) 4 (u64N z) w3 (HS3.out) (by have := HL3.out; omega) (u64N_lt z)
  rw [if_pos (by decide)] at hp
  refine hp.mono ?_; clear hp; rintro e w4 ⟨A4, n4, c4, rfl, hs, hb⟩
  have hfr : Fr (fun _ => False) w3 w4 := Fr.of_below hb
  have hl := hs.len
  rw [cells_length, Nat.mul_one, List.length_append, le_length] at hl
  have HL4 := Lib.hid (show n4 ≤ 100016 from by have h0 := HL3.out; have h9 := HLN.out; simp [le_length] at hl; omega)
  have XX := Lib.hid (XX.out.later hb)
  have BL := Lib.hid (BL.out.trans (hb.mono BL.out.size))
  have HS4 := Lib.hid hs
  clear hs hb hl
  go_wp2_with fail
  refine hK.out _ _ hfr (fun hHeld => ?_)
  clear hK K hHeld
  try simp only [Act.put, List.setIfInBounds_toArray, List.set_cons_zero, List.set_cons_succ]
  refine wpAnyH_re (S' := fun w' => Fr (fun _ => False) w4 w') (fun w' h => hfr.trans h) ?_
  clear hfr
  refine wpAnyH_take (i := 9) (oi := ⟨some 4, _, _, _, _, _⟩) (v := ?vg9) rfl (by kernel_rfl) (by kernel_rfl) (by kernel_rfl) (fun _ _ _ h => h) (Or.inl ⟨by rfl, ?yg9⟩) (Fr.refl _ _) ?rg9
  case yg9 =>
    intro wq hSw
    (try dsimp only at hSw)
    first | (go_simp; done) | (go_simp; with_reducible rfl)
  try simp only [Act.put, List.setIfInBounds_toArray, List.set_cons_zero, List.set_cons_succ]
  refine wpAnyH_done (by kernel_rfl) ?_ _
  go_wp2_with fail
  go_ret
  refine ⟨A4, n4, c4, rfl, ?_, BL.out⟩
  have e : (((l ++ le (Int.toNat 2) (u64N a)) ++ le (Int.toNat 8) g) ++ le (Int.toNat 2) (u64N cn)) ++ le (Int.toNat 4) (u64N z) = l ++ scB a g cn z := by simp [scB, nameL]
  rw [← e]
  exact HS4.out
end Go.Proofs.YtokbhgbajdomnaaGreatDoor

namespace Go.Proofs.YtokbhgbajdomnaaGreatDoor
open Go.RowKit Go.Proofs
set_option linter.unusedVariables false
set_option maxRecDepth 20000
set_option maxHeartbeats 1600000
/-- Whether a name is within what its bytes hold. -/
def fitS16 (a cn z : Int) : Bool := decide (0 ≤ a ∧ a < 65536 ∧ 0 ≤ cn ∧ cn < 65536 ∧ 0 ≤ z ∧ z < 4294967296)
theorem fit_eq16 (a cn z : Int) (g : Int) : eqS16 ((u64N a % 65536 : Nat) : Int) g ((u64N cn % 65536 : Nat) : Int) ((u64N z % 4294967296 : Nat) : Int) a g cn z = fitS16 a cn z := by
  unfold eqS16 fitS16 u64N
  congr 1
  apply propext
  constructor
  · rintro ⟨h1, -, h2, h3⟩
    omega
  · rintro ⟨h1, h2, h3, h4, h5, h6⟩
    refine ⟨?_, rfl, ?_, ?_⟩ <;> omega
section
variable {Rep : World → (Nat → Prop) → Nat → Dv → Prop} {Good : Nat → Nat → (Nat → Bool) → Prop}
set_option maxHeartbeats 6400000 in
theorem scrollBytes_any (DK : DrvK Rep) (SV : StrV Rep Good) (hGd : ∀ k n, Good k n (fun _ => true)) (a : Int) (g : Nat) (cn z : Int) (A : Option Addr) (c : Nat) (l : List UInt8) (at_ : Int) (w : World) (hg : g < 18446744073709551616) (ba : -9223372036854775808 ≤ at_ ∧ at_ < 9223372036854775808)
    (h : Sl w 1 A l.length c (cells l)) (hN : Nt w) (hT : Tz w) :
    Calls Tryz.prog 6 #[.agg #[.int .i64 a, .int .u64 (g : Int), .int .i64 cn, .int .i64 z], .slice A l.length c, .int .i64 at_] w (SaysTrue w) := by
  have hk := fun W (hb : Below w.heap.size w W) => rolls16_any DK SV (hGd 1 (1 + 1)) W (hN.keep hb) (hT.keep hb)
  have HK := Lib.hid hk
  obtain ⟨q, hq⟩ : ∃ q, q = l.length := ⟨_, rfl⟩
  rw [← hq] at h ⊢
  have HQ := Lib.hid hq
  have HS := Lib.hid h
  have BA := Lib.hid ba
  have hb : Below w.heap.size w (w.alloc (.cells #[.int .i64 a, .int .u64 (g : Int), .int .i64 cn, .int .i64 z] 38)) := (Below.refl _ _).alloc (Nat.le_refl _) _
  have hx : Sc16 (w.alloc (.cells #[.int .i64 a, .int .u64 (g : Int), .int .i64 cn, .int .i64 z] 38)) w.heap.size a (g : Int) cn z := Sc16.new
  have BL := Lib.hid hb
  have XS := Lib.hid hx
  have q63 := h.lim
  unfold maxLen at q63
  clear hk hq h ba hb hx hN hT
  by_cases c2 : (2000 : Int) < (q : Int)
  case pos =>
    go_enter Tryz.func6, Tryz.ntmps6
    go_wp2_with fail
    refine (HK.out _ BL.out).mono ?_; rintro e wz ⟨rfl, hb⟩
    have BZ := Lib.hid ((BL.out).trans (hb.mono (BL.out).size))
    clear hb
    go_wp2_with fail
    go_ret
    exact ⟨rfl, BZ.out⟩

  go_enter Tryz.func6, Tryz.ntmps6
  go_wp2_with (refine at_dst11 (d := 20) ?_; refine wpList_step11 (o := ⟨some 20, _, _, _, _, _⟩) rfl _ _ (step_sc16 (x := .tmp 3) rfl rfl XS.out) ?_)
  obtain ⟨w0, hw0⟩ : ∃ x, x = w.alloc (.cells #[.int .i64 a, .int .u64 (g : Int), .int .i64 cn, .int .i64 z] 38) := ⟨_, rfl⟩
  obtain ⟨BS, hBS⟩ : ∃ b, b = w.heap.size := ⟨_, rfl⟩
  rw [← hw0] at BL XS ⊢
  rw [show Sc16 w0 w.heap.size a (g : Int) cn z = Sc16 w0 BS a (g : Int) cn z from by rw [hBS]] at XS
  rw [← hBS]
  clear hw0 hBS
  refine (putBytes16 A q c l a g hg cn z w0 (HS.out.below BL.out (Nat.le_refl _)) (by omega)).mono ?_; rintro e w1 ⟨A1, n1, c1, rfl, hs1, hb⟩
  have HS1 := Lib.hid hs1
  have XS := Lib.hid (XS.out.later hb)
  have hn1 := hs1.len
  rw [cells_length, Nat.mul_one, List.length_append, show (scB a g cn z).length = 16 from by simp [scB, nameL, le_length], ← HQ.out] at hn1
  have BL := Lib.hid (BL.out.trans (hb.mono BL.out.size))

  obtain rfl : n1 = q + 16 := hn1.symm
  have hgb := fun W (hs : Sl W 1 A q c (cells l)) => getBytes16 A q c l at_ W hs (by omega) BA.out
  have hgr := fun W (hs : Sl W 1 A q c (cells l)) => rgetBytes16 A q c l at_ W hs (by omega) BA.out
  obtain ⟨v, hv⟩ : ∃ v, v = gB16 l at_ := ⟨_, rfl⟩
  rw [← hv] at hgb hgr
  obtain ⟨v0, v1, v2, v3, er⟩ := v
  dsimp only at hgb hgr
  have HGR := Lib.hid hgr
  have HGB := Lib.hid hgb
  have sz := Lib.hid (size_sc16 (v0 : Int) (v1 : Int) (v2 : Int) (v3 : Int))
  clear hs1 hb hv hgb hgr
  go_wp2_with fail
  refine (HGB.out w1 (HS.out.below BL.out (Nat.le_refl _))).mono ?_; rintro e w2 ⟨rfl, hb⟩
  have HS1 := Lib.hid (HS1.out.below hb (Nat.le_refl _))
  have XS := Lib.hid (XS.out.later hb)
  have BL := Lib.hid (BL.out.trans (hb.mono BL.out.size))

  clear hb HGB
  have hb : Below w2.heap.size w2 (w2.alloc (.cells #[.int .i64 (v0 : Int), .int .u64 (v1 : Int), .int .i64 (v2 : Int), .int .i64 (v3 : Int)] 38)) := (Below.refl _ _).alloc (Nat.le_refl _) _
  have hx : Sc16 (w2.alloc (.cells #[.int .i64 (v0 : Int), .int .u64 (v1 : Int), .int .i64 (v2 : Int), .int .i64 (v3 : Int)] 38)) w2.heap.size (v0 : Int) (v1 : Int) (v2 : Int) (v3 : Int) := Sc16.new
  have XS := Lib.hid (XS.out.later hb)
  have BL := Lib.hid (BL.out.trans (hb.mono BL.out.size))
  have HS1 := Lib.hid (HS1.out.below hb (Nat.le_refl _))
  clear hb
  go_wp2_with (refine at_none ?_; refine wpList_store_row (o := ⟨none, _, _, _, _, _⟩) rfl 38 (.tmp 8) (.tmp 26) rfl w2.heap.size #[.int .i64 (v0 : Int), .int .u64 (v1 : Int), .int .i64 (v2 : Int), .int .i64 (v3 : Int)] rfl rfl 38 _ (heap_alloc_last _ _) sz.out rfl one_sc16 ?_; rw [World.setRow_alloc_new])
  obtain ⟨w3, hW⟩ : ∃ x, x = w2.alloc (.cells #[.int .i64 (v0 : Int), .int .u64 (v1 : Int), .int .i64 (v2 : Int), .int .i64 (v3 : Int)] 38) := ⟨_, rfl⟩
  obtain ⟨BX1, hB⟩ : ∃ b, b = w2.heap.size := ⟨_, rfl⟩
  rw [← hW, ← hB] at hx
  rw [← hW, ← hB]
  rw [← hW] at XS
  rw [← hW] at BL HS1
  have X1 := Lib.hid hx
  clear hx hW hB

  refine (HGR.out w3 (HS.out.below BL.out (Nat.le_refl _))).mono ?_; rintro e w4 ⟨rfl, hb⟩
  have HS1 := Lib.hid (HS1.out.below hb (Nat.le_refl _))
  have XS := Lib.hid (XS.out.later hb)
  have X1 := Lib.hid (X1.out.later hb)

  have BL := Lib.hid (BL.out.trans (hb.mono BL.out.size))

  clear hb HGR
  have hb : Below w4.heap.size w4 (w4.alloc (.cells #[.int .i64 (v0 : Int), .int .u64 (v1 : Int), .int .i64 (v2 : Int), .int .i64 (v3 : Int)] 38)) := (Below.refl _ _).alloc (Nat.le_refl _) _
  have hx : Sc16 (w4.alloc (.cells #[.int .i64 (v0 : Int), .int .u64 (v1 : Int), .int .i64 (v2 : Int), .int .i64 (v3 : Int)] 38)) w4.heap.size (v0 : Int) (v1 : Int) (v2 : Int) (v3 : Int) := Sc16.new
  have XS := Lib.hid (XS.out.later hb)
  have X1 := Lib.hid (X1.out.later hb)
  have BL := Lib.hid (BL.out.trans (hb.mono BL.out.size))
  have HS1 := Lib.hid (HS1.out.below hb (Nat.le_refl _))
  clear hb
  go_wp2_with (refine at_none ?_; refine wpList_store_row (o := ⟨none, _, _, _, _, _⟩) rfl 38 (.tmp 10) (.tmp 32) rfl w4.heap.size #[.int .i64 (v0 : Int), .int .u64 (v1 : Int), .int .i64 (v2 : Int), .int .i64 (v3 : Int)] rfl rfl 38 _ (heap_alloc_last _ _) sz.out rfl one_sc16 ?_; rw [World.setRow_alloc_new])
  obtain ⟨w5, hW⟩ : ∃ x, x = w4.alloc (.cells #[.int .i64 (v0 : Int), .int .u64 (v1 : Int), .int .i64 (v2 : Int), .int .i64 (v3 : Int)] 38) := ⟨_, rfl⟩
  obtain ⟨BX2, hB⟩ : ∃ b, b = w4.heap.size := ⟨_, rfl⟩
  rw [← hW, ← hB] at hx
  rw [← hW, ← hB]
  rw [← hW] at XS
  rw [← hW] at X1
  rw [← hW] at BL HS1
  have X2 := Lib.hid hx
  clear hx hW hB

  obtain ⟨sp, hsp⟩ : ∃ sp, sp = bstr (l ++ scB a g cn z) := ⟨_, rfl⟩
  have HSP := Lib.hid hsp
  have hdr : Below w5.heap.size w5 w5.drew := (Below.drew (Below.refl _ _))
  have HS1 := Lib.hid (HS1.out.below hdr (Nat.le_refl _))
  have XS := Lib.hid (XS.out.later hdr)
  have X1 := Lib.hid (X1.out.later hdr)
  have X2 := Lib.hid (X2.out.later hdr)
  have BL := Lib.hid (BL.out.trans (hdr.mono BL.out.size))
  clear hsp hdr
  refine wp_region_held_drew (S := fun w' => Fr (fun _ => False) w5.drew w') (by kernel_rfl) (Fr.refl _ _) (fun hHeld => ?_)
  clear hHeld
  refine wpAnyH_take (i := 0) (oi := ⟨some 34, _, _, _, _, _⟩) (v := ?vf0) rfl (by kernel_rfl) (by kernel_rfl) (by kernel_rfl) (fun _ _ _ h => h) (Or.inl ⟨by rfl, ?yf0⟩) (Fr.refl _ _) ?rf0
  case yf0 =>
    intro wq hSw
    (try dsimp only at hSw)
    first | (go_simp; done) | (go_simp; with_reducible rfl)
  try simp only [Act.put, List.setIfInBounds_toArray, List.set_cons_zero, List.set_cons_succ]
  refine wpAnyH_take (i := 1) (oi := ⟨some 35, _, _, _, _, _⟩) (v := ?vf1) rfl (by kernel_rfl) (by kernel_rfl) (by kernel_rfl) (fun _ _ _ h => h) (Or.inl ⟨by rfl, ?yf1⟩) (Fr.refl _ _) ?rf1
  case yf1 =>
    intro wq hSw
    (try dsimp only at hSw)
    have k1 := run_string_of (P := Tryz.prog) 40 5 9 Tryz.underlying40 Tryz.underlying5 Tryz.underlying9 (HS1.out.fr hSw (fun _ _ _ _ h => h))
    rw [← HSP.out] at k1
    first | (go_simp; done) | (go_simp; with_reducible rfl)
  try simp only [Act.put, List.setIfInBounds_toArray, List.set_cons_zero, List.set_cons_succ]
  refine wpAnyH_take (i := 2) (oi := ⟨some 36, _, _, _, _, _⟩) (v := ?vf2) rfl (by kernel_rfl) (by kernel_rfl) (by kernel_rfl) (fun _ _ _ h => h) (Or.inl ⟨by rfl, ?yf2⟩) (Fr.refl _ _) ?rf2
  case yf2 =>
    intro wq hSw
    (try dsimp only at hSw)
    first | (go_simp; done) | (go_simp; with_reducible rfl)
  try simp only [Act.put, List.setIfInBounds_toArray, List.set_cons_zero, List.set_cons_succ]
  refine wpAnyH_take (i := 3) (oi := ⟨some 37, _, _, _, _, _⟩) (v := (.agg #[.int .i64 a, .int .u64 (g : Int), .int .i64 cn, .int .i64 z])) rfl (by kernel_rfl) (by kernel_rfl) (by kernel_rfl) (fun _ _ _ h => h) (Or.inl ⟨by rfl, ?yf3⟩) (Fr.refl _ _) ?rf3
  case yf3 =>
    intro wq hSw
    exact step_sc16 (x := .tmp 3) rfl rfl (XS.out.fr hSw (fun h => h))
  try simp only [Act.put, List.setIfInBounds_toArray, List.set_cons_zero, List.set_cons_succ]
  refine wpAnyH_ready (rs := [4]) (by kernel_rfl) (by simp) ?_
  refine AllReadyH.cons (o := ⟨some 38, _, _, _, _, _⟩) rfl (fun K hK => ?_) AllReadyH.nil
  go_simp
  refine (rputBytes16 A q c l a g hg cn z w5.drew (HS.out.below BL.out (Nat.le_refl _)) (by omega)).mono ?_; rintro e w6 ⟨A2, n2, c2, rfl, hs2, hb⟩
  have hfr : Fr (fun _ => False) w5.drew w6 := Fr.of_below hb
  have HS1 := Lib.hid (HS1.out.below hb (Nat.le_refl _))
  have HS2 := Lib.hid hs2
  have XS := Lib.hid (XS.out.later hb)
  have X1 := Lib.hid (X1.out.later hb)
  have X2 := Lib.hid (X2.out.later hb)
  have BL := Lib.hid (BL.out.trans (hb.mono BL.out.size))
  clear hb hs2
  go_wp2_with fail
  refine hK.out _ _ hfr (fun hHeld => ?_)
  clear hK K hHeld
  try simp only [Act.put, List.setIfInBounds_toArray, List.set_cons_zero, List.set_cons_succ]
  refine wpAnyH_re (S' := fun w' => Fr (fun _ => False) w6 w') (fun w' h => hfr.trans h) ?_
  clear hfr
  refine wpAnyH_take (i := 5) (oi := ⟨some 39, _, _, _, _, _⟩) (v := ?vf5) rfl (by kernel_rfl) (by kernel_rfl) (by kernel_rfl) (fun _ _ _ h => h) (Or.inl ⟨by rfl, ?yf5⟩) (Fr.refl _ _) ?rf5
  case yf5 =>
    intro wq hSw
    (try dsimp only at hSw)
    have k2 := run_string_of (P := Tryz.prog) 40 5 9 Tryz.underlying40 Tryz.underlying5 Tryz.underlying9 (HS2.out.fr hSw (fun _ _ _ _ h => h))
    rw [← HSP.out] at k2
    first | (go_simp; done) | (go_simp; with_reducible rfl)
  try simp only [Act.put, List.setIfInBounds_toArray, List.set_cons_zero, List.set_cons_succ]
  refine wpAnyH_take (i := 6) (oi := ⟨some 40, _, _, _, _, _⟩) (v := ?vf6) rfl (by kernel_rfl) (by kernel_rfl) (by kernel_rfl) (fun _ _ _ h => h) (Or.inl ⟨by rfl, ?yf6⟩) (Fr.refl _ _) ?rf6
  case yf6 =>
    intro wq hSw
    (try dsimp only at hSw)
    first | (go_simp; done) | (go_simp; with_reducible rfl)
  try simp only [Act.put, List.setIfInBounds_toArray, List.set_cons_zero, List.set_cons_succ]
  refine wpAnyH_take (i := 7) (oi := ⟨some 41, _, _, _, _, _⟩) (v := ?vf7) rfl (by kernel_rfl) (by kernel_rfl) (by kernel_rfl) (fun _ _ _ h => h) (Or.inl ⟨by rfl, ?yf7⟩) (Fr.refl _ _) ?rf7
  case yf7 =>
    intro wq hSw
    (try dsimp only at hSw)
    first | (go_simp; done) | (go_simp; with_reducible rfl)
  try simp only [Act.put, List.setIfInBounds_toArray, List.set_cons_zero, List.set_cons_succ]
  refine wpAnyH_take (i := 8) (oi := ⟨some 42, _, _, _, _, _⟩) (v := (.agg #[.int .i64 (v0 : Int), .int .u64 (v1 : Int), .int .i64 (v2 : Int), .int .i64 (v3 : Int)])) rfl (by kernel_rfl) (by kernel_rfl) (by kernel_rfl) (fun _ _ _ h => h) (Or.inl ⟨by rfl, ?yf8⟩) (Fr.refl _ _) ?rf8
  case yf8 =>
    intro wq hSw
    exact step_sc16 (x := .tmp 8) rfl rfl (X1.out.fr hSw (fun h => h))
  try simp only [Act.put, List.setIfInBounds_toArray, List.set_cons_zero, List.set_cons_succ]
  refine wpAnyH_take (i := 9) (oi := ⟨some 43, _, _, _, _, _⟩) (v := (.agg #[.int .i64 (v0 : Int), .int .u64 (v1 : Int), .int .i64 (v2 : Int), .int .i64 (v3 : Int)])) rfl (by kernel_rfl) (by kernel_rfl) (by kernel_rfl) (fun _ _ _ h => h) (Or.inl ⟨by rfl, ?yf9⟩) (Fr.refl _ _) ?rf9
  case yf9 =>
    intro wq hSw
    exact step_sc16 (x := .tmp 10) rfl rfl (X2.out.fr hSw (fun h => h))
  try simp only [Act.put, List.setIfInBounds_toArray, List.set_cons_zero, List.set_cons_succ]
  refine wpAnyH_take (i := 10) (oi := ⟨some 44, _, _, _, _, _⟩) (v := (.bool false)) rfl (by kernel_rfl) (by kernel_rfl) (by kernel_rfl) (fun _ _ _ h => h) (Or.inl ⟨by rfl, ?yf10⟩) (Fr.refl _ _) ?rf10
  case yf10 =>
    intro wq hSw
    exact step_nes16 (x := .tmp 42) (y := .tmp 43) (a := v0) (g := v1) (c := v2) (z := v3) rfl rfl rfl
  try simp only [Act.put, List.setIfInBounds_toArray, List.set_cons_zero, List.set_cons_succ]
  refine wpAnyH_take (i := 11) (oi := ⟨some 45, _, _, _, _, _⟩) (v := ?vf11) rfl (by kernel_rfl) (by kernel_rfl) (by kernel_rfl) (fun _ _ _ h => h) (Or.inl ⟨by rfl, ?yf11⟩) (Fr.refl _ _) ?rf11
  case yf11 =>
    intro wq hSw
    (try dsimp only at hSw)
    first | (go_simp; done) | (go_simp; with_reducible rfl)
  try simp only [Act.put, List.setIfInBounds_toArray, List.set_cons_zero, List.set_cons_succ]
  refine wpAnyH_take (i := 12) (oi := ⟨some 46, _, _, _, _, _⟩) (v := ?vf12) rfl (by kernel_rfl) (by kernel_rfl) (by kernel_rfl) (fun _ _ _ h => h) (Or.inl ⟨by rfl, ?yf12⟩) (Fr.refl _ _) ?rf12
  case yf12 =>
    intro wq hSw
    (try dsimp only at hSw)
    first | (go_simp; done) | (go_simp; with_reducible rfl)
  try simp only [Act.put, List.setIfInBounds_toArray, List.set_cons_zero, List.set_cons_succ]
  refine wpAnyH_take (i := 13) (oi := ⟨some 47, _, _, _, _, _⟩) (v := ?vf13) rfl (by kernel_rfl) (by kernel_rfl) (by kernel_rfl) (fun _ _ _ h => h) (Or.inl ⟨by rfl, ?yf13⟩) (Fr.refl _ _) ?rf13
  case yf13 =>
    intro wq hSw
    (try dsimp only at hSw)
    first | (go_simp; done) | (go_simp; with_reducible rfl)
  try simp only [Act.put, List.setIfInBounds_toArray, List.set_cons_zero, List.set_cons_succ]
  refine wpAnyH_take (i := 14) (oi := ⟨some 48, _, _, _, _, _⟩) (v := ?vf14) rfl (by kernel_rfl) (by kernel_rfl) (by kernel_rfl) (fun _ _ _ h => h) (Or.inl ⟨by rfl, ?yf14⟩) (Fr.refl _ _) ?rf14
  case yf14 =>
    intro wq hSw
    (try dsimp only at hSw)
    first | (go_simp; done) | (go_simp; with_reducible rfl)
  try simp only [Act.put, List.setIfInBounds_toArray, List.set_cons_zero, List.set_cons_succ]
  refine wpAnyH_take (i := 15) (oi := ⟨some 49, _, _, _, _, _⟩) (v := (.bool false)) rfl (by kernel_rfl) (by kernel_rfl) (by kernel_rfl) (fun _ _ _ h => h) (Or.inl ⟨by rfl, ?yf15⟩) (Fr.refl _ _) ?rf15
  case yf15 =>
    intro wq hSw
    exact step_ne15 (x := .tmp 47) (y := .tmp 48) rfl rfl rfl (decide_eq_true rfl)
  try simp only [Act.put, List.setIfInBounds_toArray, List.set_cons_zero, List.set_cons_succ]
  refine wpAnyH_take (i := 16) (oi := ⟨some 50, _, _, _, _, _⟩) (v := ?vf16) rfl (by kernel_rfl) (by kernel_rfl) (by kernel_rfl) (fun _ _ _ h => h) (Or.inl ⟨by rfl, ?yf16⟩) (Fr.refl _ _) ?rf16
  case yf16 =>
    intro wq hSw
    (try dsimp only at hSw)
    first | (go_simp; done) | (go_simp; with_reducible rfl)
  try simp only [Act.put, List.setIfInBounds_toArray, List.set_cons_zero, List.set_cons_succ]
  refine wpAnyH_done (by kernel_rfl) ?_ _

  go_wp2_with fail
  have hgp := getBytes16 A1 (q + 16) c1 (l ++ scB a g cn z) (q : Int) w6 HS1.out (by omega) (by omega)
  rw [show gB16 (l ++ scB a g cn z) (q : Int) = (u64N a % 65536, g, u64N cn % 65536, u64N z % 4294967296, 0) from by rw [HQ.out, scB_eq, Nat.mod_eq_of_lt hg]] at hgp
  dsimp only at hgp
  have hfe := fit_eq16 a cn z (g : Int)
  obtain ⟨y0, hy0⟩ : ∃ y, y = u64N a % 65536 := ⟨_, rfl⟩
  obtain ⟨y2, hy2⟩ : ∃ y, y = u64N cn % 65536 := ⟨_, rfl⟩
  obtain ⟨y3, hy3⟩ : ∃ y, y = u64N z % 4294967296 := ⟨_, rfl⟩
  rw [← hy0, ← hy2, ← hy3] at hgp hfe
  have HFE := Lib.hid hfe
  have sz := Lib.hid (size_sc16 (y0 : Int) (g : Int) (y2 : Int) (y3 : Int))
  clear hy0 hy2 hy3 hfe
  refine hgp.mono ?_; clear hgp; rintro e w7 ⟨rfl, hb⟩
  have XS := Lib.hid (XS.out.later hb)
  have BL := Lib.hid (BL.out.trans (hb.mono BL.out.size))

  clear hb HS1 X1 X2
  have hb : Below w7.heap.size w7 (w7.alloc (.cells #[.int .i64 (y0 : Int), .int .u64 (g : Int), .int .i64 (y2 : Int), .int .i64 (y3 : Int)] 38)) := (Below.refl _ _).alloc (Nat.le_refl _) _
  have hx : Sc16 (w7.alloc (.cells #[.int .i64 (y0 : Int), .int .u64 (g : Int), .int .i64 (y2 : Int), .int .i64 (y3 : Int)] 38)) w7.heap.size (y0 : Int) (g : Int) (y2 : Int) (y3 : Int) := Sc16.new
  have XS := Lib.hid (XS.out.later hb)
  have BL := Lib.hid (BL.out.trans (hb.mono BL.out.size))
  clear hb
  go_upto_region 9 with (refine at_none ?_; refine wpList_store_row (o := ⟨none, _, _, _, _, _⟩) rfl 38 (.tmp 12) (.tmp 56) rfl w7.heap.size #[.int .i64 (y0 : Int), .int .u64 (g : Int), .int .i64 (y2 : Int), .int .i64 (y3 : Int)] rfl rfl 38 _ (heap_alloc_last _ _) sz.out rfl one_sc16 ?_; rw [World.setRow_alloc_new])
  obtain ⟨w8, hW⟩ : ∃ x, x = w7.alloc (.cells #[.int .i64 (y0 : Int), .int .u64 (g : Int), .int .i64 (y2 : Int), .int .i64 (y3 : Int)] 38) := ⟨_, rfl⟩
  obtain ⟨BX3, hB⟩ : ∃ b, b = w7.heap.size := ⟨_, rfl⟩
  rw [← hW, ← hB] at hx
  rw [← hW, ← hB]
  rw [← hW] at XS
  rw [← hW] at BL
  have X3 := Lib.hid hx
  clear hx hW hB

  go_cut [14] (fun v wx => v = .bool (fitS16 a cn z) ∧ wx = w8)
  case first =>
    have k0 := XS.out.c0
    have k2 := XS.out.c2
    have k3 := XS.out.c3
    rcases (show a < 0 ∨ (0 ≤ a ∧ 65536 ≤ a) ∨ (0 ≤ a ∧ a < 65536 ∧ cn < 0) ∨ (0 ≤ a ∧ a < 65536 ∧ 0 ≤ cn ∧ 65536 ≤ cn) ∨ (0 ≤ a ∧ a < 65536 ∧ 0 ≤ cn ∧ cn < 65536 ∧ z < 0) ∨ (0 ≤ a ∧ a < 65536 ∧ 0 ≤ cn ∧ cn < 65536 ∧ 0 ≤ z ∧ 4294967296 ≤ z) ∨ (0 ≤ a ∧ a < 65536 ∧ 0 ≤ cn ∧ cn < 65536 ∧ 0 ≤ z ∧ z < 4294967296) from by omega) with d1 | ⟨d1, d2⟩ | ⟨d1, d2, d3⟩ | ⟨d1, d2, d3, d4⟩ | ⟨d1, d2, d3, d4, d5⟩ | ⟨d1, d2, d3, d4, d5, d6⟩ | ⟨d1, d2, d3, d4, d5, d6⟩
    · go_wp2_with fail
      all_goals
        go_meet
        exact ⟨by first | (rw [show fitS16 a cn z = true from decide_eq_true (by omega)]; done) | (rw [show fitS16 a cn z = false from decide_eq_false (by omega)]; done) | (rw [show fitS16 a cn z = false from decide_eq_false (by omega), decide_eq_false (by omega)]) | (rw [show fitS16 a cn z = true from decide_eq_true (by omega), decide_eq_true (by omega)]), rfl⟩
    · go_wp2_with fail
      all_goals
        go_meet
        exact ⟨by first | (rw [show fitS16 a cn z = true from decide_eq_true (by omega)]; done) | (rw [show fitS16 a cn z = false from decide_eq_false (by omega)]; done) | (rw [show fitS16 a cn z = false from decide_eq_false (by omega), decide_eq_false (by omega)]) | (rw [show fitS16 a cn z = true from decide_eq_true (by omega), decide_eq_true (by omega)]), rfl⟩
    · go_wp2_with fail
      all_goals
        go_meet
        exact ⟨by first | (rw [show fitS16 a cn z = true from decide_eq_true (by omega)]; done) | (rw [show fitS16 a cn z = false from decide_eq_false (by omega)]; done) | (rw [show fitS16 a cn z = false from decide_eq_false (by omega), decide_eq_false (by omega)]) | (rw [show fitS16 a cn z = true from decide_eq_true (by omega), decide_eq_true (by omega)]), rfl⟩
    · go_wp2_with fail
      all_goals
        go_meet
        exact ⟨by first | (rw [show fitS16 a cn z = true from decide_eq_true (by omega)]; done) | (rw [show fitS16 a cn z = false from decide_eq_false (by omega)]; done) | (rw [show fitS16 a cn z = false from decide_eq_false (by omega), decide_eq_false (by omega)]) | (rw [show fitS16 a cn z = true from decide_eq_true (by omega), decide_eq_true (by omega)]), rfl⟩
    · go_wp2_with fail
      all_goals
        go_meet
        exact ⟨by first | (rw [show fitS16 a cn z = true from decide_eq_true (by omega)]; done) | (rw [show fitS16 a cn z = false from decide_eq_false (by omega)]; done) | (rw [show fitS16 a cn z = false from decide_eq_false (by omega), decide_eq_false (by omega)]) | (rw [show fitS16 a cn z = true from decide_eq_true (by omega), decide_eq_true (by omega)]), rfl⟩
    · go_wp2_with fail
      all_goals
        go_meet
        exact ⟨by first | (rw [show fitS16 a cn z = true from decide_eq_true (by omega)]; done) | (rw [show fitS16 a cn z = false from decide_eq_false (by omega)]; done) | (rw [show fitS16 a cn z = false from decide_eq_false (by omega), decide_eq_false (by omega)]) | (rw [show fitS16 a cn z = true from decide_eq_true (by omega), decide_eq_true (by omega)]), rfl⟩
    · go_wp2_with fail
      all_goals
        go_meet
        exact ⟨by first | (rw [show fitS16 a cn z = true from decide_eq_true (by omega)]; done) | (rw [show fitS16 a cn z = false from decide_eq_false (by omega)]; done) | (rw [show fitS16 a cn z = false from decide_eq_false (by omega), decide_eq_false (by omega)]) | (rw [show fitS16 a cn z = true from decide_eq_true (by omega), decide_eq_true (by omega)]), rfl⟩
  case rest =>
    obtain ⟨rfl, rfl⟩ := hcut
    obtain ⟨fb, hfb⟩ : ∃ fb, fb = fitS16 a cn z := ⟨_, rfl⟩
    rw [← hfb]
    have HQE := Lib.hid (show eqS16 (y0 : Int) (g : Int) (y2 : Int) (y3 : Int) a (g : Int) cn z = fb from HFE.out.trans hfb.symm)
    clear hfb
    go_wp2_with (first | (refine at_dst11 (d := 89) ?_; refine wpList_step11 (o := ⟨some 89, _, _, _, _, _⟩) rfl _ _ (step_sc16 (x := .tmp 12) rfl rfl X3.out) ?_) | (refine at_dst11 (d := 90) ?_; refine wpList_step11 (o := ⟨some 90, _, _, _, _, _⟩) rfl _ _ (step_sc16 (x := .tmp 3) rfl rfl XS.out) ?_) | (refine at_dst11 (d := 91) ?_; refine wpList_step11 (o := ⟨some 91, _, _, _, _, _⟩) rfl (.bool fb) _ (by rw [← HQE.out]; exact step_eqs16 (x := .tmp 89) (y := .tmp 90) rfl rfl rfl) ?_))
    refine (HK.out _ BL.out).mono ?_; rintro e wz ⟨rfl, hb⟩
    have BZ := Lib.hid ((BL.out).trans (hb.mono (BL.out).size))
    clear hb
    go_wp2_with fail
    go_ret
    exact ⟨rfl, BZ.out⟩

end
end Go.Proofs.YtokbhgbajdomnaaGreatDoor

namespace Go.Proofs.YtokbhgbajdomnaaGreatDoor
open Go.ChangeShapes Go.WideShapes Go.ChangeAt Go.RowKit Go.Proofs Go.Deep
set_option linter.unusedVariables false

section
variable {H : Type} {enc : TypeId × Value → H} {w : World} {base : Nat} {held : Bool} {fuel : Nat}
set_option maxRecDepth 100000
theorem arg_scrollN {v : Value} {d : DataW H} {p : List MemPlace} {r : Reach} {b0 : Nat} (hv : Value.okWide Tryz.prog w r b0 38 v) (h : DataW.Trod enc Tryz.prog w base (fun _ => true) held 38 v d p) :
    ∃ (a : Int) (g : Nat) (n z : Int), v = .agg #[.int .i64 a, .int .u64 (g : Int), .int .i64 n, .int .i64 z] ∧ g < 18446744073709551616 := by
  obtain ⟨c0, c1, c2, c3, y0, y1, y2, y3, m, rfl, rfl, rfl, hy0, hy1, hy2, hy3⟩ := Go.Joins.open_agg4 Tryz.underlying38 (by kernel_rfl) cells_sc16 hv h
  obtain ⟨x, e0, _, wx⟩ := DataW.trod_int Tryz.underlying3 hy0
  obtain ⟨y, e1, _, wy⟩ := DataW.trod_int Tryz.underlying36 hy1
  obtain ⟨z, e2, _, wz⟩ := DataW.trod_int Tryz.underlying3 hy2
  obtain ⟨u, e3, _, wu⟩ := DataW.trod_int Tryz.underlying3 hy3
  injection e0 with e0
  injection e1 with e1
  injection e2 with e2
  injection e3 with e3
  subst e0 e1 e2 e3
  have hb : 0 ≤ y ∧ y < 18446744073709551616 := by have := bounds_u64 wy; omega
  obtain ⟨g, rfl⟩ := Int.eq_ofNat_of_zero_le hb.1
  exact ⟨x, g, z, u, rfl, by omega⟩
end
end Go.Proofs.YtokbhgbajdomnaaGreatDoor

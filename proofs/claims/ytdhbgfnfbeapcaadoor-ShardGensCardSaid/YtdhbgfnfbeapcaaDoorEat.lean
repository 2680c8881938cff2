/-
  The statement's function ShardTells returns true, whatever its arguments. Condition: the table reads as the row lists it ('Nt'). (Written by gen_eat.py.)
-/
import Derived.Test.YtdhbgfnfbeapcaaDoorEaq
import Derived.Deep.RegionHeld
namespace Go.Proofs.YtdhbgfnfbeapcaaDoor
open Go.RowKit Go.Proofs
set_option linter.unusedVariables false

/-- A stripe's name as plain data. -/
structure Rfv where
  k : UInt8
  p : Int
  g : Nat
def Rfv.cs (r : Rfv) : Array Value := #[.int .u8 (r.k.toNat : Int), .int .i64 r.p, .int .u64 (r.g : Int)]
def Rfv.v (r : Rfv) : Value := .agg r.cs
def RfB (w : World) (b : Nat) (r : Rfv) : Prop := w.heap[b]? = some (.cells r.cs 29 (0, 0))
theorem RfB.later {w w' : World} {b : Nat} {r : Rfv} (h : RfB w b r) (hb : Below w.heap.size w w') : RfB w' b r := (hb.block _ (block_lt h)).trans h
theorem RfB.fr {w w' : World} {b : Nat} {r : Rfv} {S : Nat → Prop} (h : RfB w b r) (hf : Fr S w w') (hb : ¬ S b) : RfB w' b r := hf.row_some h hb
theorem size_ref (r : Rfv) : (Tryd.prog.info? 29).map (·.size) = some r.cs.size := by
  show _ = some 3
  kernel_rfl
theorem step_loadRef {ρ : Operand → Value} {o : Oper} {x : Operand} {w : World} {b : Nat} {r : Rfv} (ho : o.op = .load 29 x) (hx : ρ x = .pointer (some ⟨b, 0, none⟩)) (h : RfB w b r) : (execOp ρ o).run Tryd.prog w = .ok (.value (.agg #[.int .u8 (r.k.toNat : Int), .int .i64 r.p, .int .u64 (r.g : Int)])) w := by
  unfold execOp
  simp only [ho, hx, Instr.loadAt, Instr.sureAddr, Sem.run_bind, Sem.run_pure, Result.andThen_ok, run_loadVar_row w b _ 29 r.cs (0, 0) _ h Tryd.underlying29 rfl (size_ref r)]
  rfl
theorem step_loadSh {ρ : Operand → Value} {o : Oper} {x : Operand} {w : World} {b : Nat} {s : Sh} (ho : o.op = .load 26 x) (hx : ρ x = .pointer (some ⟨b, 0, none⟩)) (h : ShB w b s) : (execOp ρ o).run Tryd.prog w = .ok (.value (.agg s.cs.toArray)) w := by
  unfold execOp
  simp only [ho, hx, Instr.loadAt, Instr.sureAddr, Sem.run_bind, Sem.run_pure, Result.andThen_ok, run_loadVar_row w b _ 26 s.cs.toArray (0, 0) _ h Tryd.underlying26 rfl (size_shard_a s)]
/-- What is put, and the error. -/
def putL (s : Sh) : List UInt8 := if s.kn then s.sector else []
def putE (s : Sh) : Nat := if s.kn then 0 else 2
theorem sput_any (s : Sh) (hs : s.Ok) (w : World) (hN : Nt w) : Calls Tryd.prog 8 #[.agg s.cs.toArray] w fun e w' => ∃ A n c, e = .returned (.tuple #[.slice A n c, .int .i64 (putE s : Int)]) ∧ Sl w' 1 A n c (cells (putL s)) ∧ Below w.heap.size w w' := by
  cases hk : s.kn
  · refine (sput_no s hk w).mono ?_; rintro e w' ⟨rfl, hb⟩
    exact ⟨none, 0, 0, by rw [putE, hk]; rfl, by rw [putL, hk]; exact Sl.nil _ _ _ (by decide), hb⟩
  · refine (sput_yes s hs hk w hN).mono ?_; rintro e w' ⟨A, rfl, h1, _, hb⟩
    exact ⟨A, 64, 64, by rw [putE, hk]; rfl, by rw [putL, hk]; exact h1, hb⟩
theorem rsput_any (s : Sh) (hs : s.Ok) (w : World) : Calls Tryd.prog 9 #[.agg s.cs.toArray] w fun e w' => ∃ A n c, e = .returned (.tuple #[.slice A n c, .int .i64 (putE s : Int)]) ∧ Sl w' 1 A n c (cells (putL s)) ∧ Below w.heap.size w w' := by
  cases hk : s.kn
  · refine (rsput_no s hk w).mono ?_; rintro e w' ⟨rfl, hb⟩
    exact ⟨none, 0, 0, by rw [putE, hk]; rfl, by rw [putL, hk]; exact Sl.nil _ _ _ (by decide), hb⟩
  · refine (rsput_yes s hs hk w).mono ?_; rintro e w' ⟨A, c, rfl, h1, hb⟩
    exact ⟨A, 64, c, by rw [putE, hk]; rfl, by rw [putL, hk]; exact h1, hb⟩
theorem info_sl11 : (Tryd.prog.info? 27).map (fun i => (i.zero, i.size, i.bytes)) = some (some (.slice none 0 0), 1, 24) := by kernel_rfl
theorem wpList_append_sl11 {w : World} {B n c : Nat} {A : Option Addr} {xs : List Value} {ops : Array Oper} {rest : List Oper} {o : Oper} {a : Act} {Q : Exit → Act → World → Prop} (hgd : o.guard = none) (s x : Operand)
    (ho : o.op = .call { callee := .builtin .append, args := #[s, x], argTypes := #[37, 37] })
    (hv : a.eval s = .slice A n c) (h : Own w B 27 1 A n c xs) (hB : B ≤ w.heap.size) (A2 : Option Addr) (m c2 : Nat) (ys : List Value) (hx : a.eval x = .slice A2 m c2) (hs : Sl w 1 A2 m c2 ys) (h1 : ∀ u ∈ ys, u.oneCell' = true) (hm : n + m ≤ 1000)
    (hk : ∀ A' c' w', Own w' B 27 1 A' (n + m) c' (xs ++ ys) → Below B w w' → wpList Tryd.prog ops Q rest (a.put o.dst (.slice A' (n + m) c')) w') : wpList Tryd.prog ops Q (o :: rest) a w := by
  obtain ⟨i0, hi, hz0, hz1, hz2⟩ := info_parts info_sl11
  exact wpList_append_any hgd s x _ _ ho i0 (.slice none 0 0) 24 Tryd.underlying37 hi hz0 hz1 hz2 rfl (by decide) hv h hB m ys _ hx (hs.src Tryd.underlying37 (by decide) h1) (by unfold maxLen; omega) (by omega) hk
/-- A slice of bytes. -/
def Bx (w : World) (v : Value) : Prop := ∃ A n c, ∃ l : List UInt8, v = .slice A n c ∧ Sl w 1 A n c (cells l)
theorem Bx.later {w w' : World} {v : Value} (h : Bx w v) (hb : Below w.heap.size w w') : Bx w' v := by
  obtain ⟨A, n, c, l, rfl, hs⟩ := h
  exact ⟨A, n, c, l, rfl, hs.below hb (Nat.le_refl _)⟩
set_option maxRecDepth 20000
set_option maxHeartbeats 3200000
section
variable (s : Sh) (hs : s.Ok) (A : Option Addr) (n c : Nat) (l : List UInt8) (r : Rfv) (index : Int) (w : World) (h : Sl w 1 A n c (cells l)) (hN : Nt w)
include hs h hN
theorem tells_long (hn : 200 < n) :
    Calls Tryd.prog 3 #[.agg s.cs.toArray, .slice A n c, .agg #[.int .u8 (r.k.toNat : Int), .int .i64 r.p, .int .u64 (r.g : Int)], .int .i64 index] w (SaysTrue w) := by
  obtain ⟨w0, hw0⟩ : ∃ w0, w0 = (w.alloc (.cells s.cs.toArray 26)).alloc (.cells #[.int .u8 (r.k.toNat : Int), .int .i64 r.p, .int .u64 (r.g : Int)] 29) := ⟨_, rfl⟩
  have hb0 : Below w.heap.size w w0 := by rw [hw0]; exact ((Below.refl _ _).alloc (Nat.le_refl _) _).alloc (by simp) _
  have hS0 : ShB w0 w.heap.size s := by rw [hw0]; exact (ShB.new w s).later ((Below.refl _ _).alloc (Nat.le_refl _) _)
  have hR0 : RfB w0 (w.heap.size + 1) r := by
    rw [hw0]
    have := heap_alloc_new (w.alloc (.cells s.cs.toArray 26)) (.cells #[.int .u8 (r.k.toNat : Int), .int .i64 r.p, .int .u64 (r.g : Int)] 29)
    simpa [RfB, Rfv.cs] using this
  have hlen := h.len
  rw [cells_length, Nat.mul_one] at hlen
  have H := Lib.hid h
  have Hw0 := Lib.hid hw0
  have HB0 := Lib.hid hb0
  have HS0 := Lib.hid hS0
  have HR0 := Lib.hid hR0
  have HN := Lib.hid hN
  have HOK := Lib.hid hs
  clear hw0 hb0 hS0 hR0 hN hs h
  clear hlen
  have hn2 : (n : Int) > 200 := by omega
  go_enter Tryd.func3, Tryd.ntmps3
  go_wp2_with (first
    | (rw [← Hw0.out]))
  refine (lies_any w0 (HN.out.keep HB0.out)).mono ?_; rintro e w1 ⟨rfl, hb⟩
  go_wp2_with fail
  go_ret
  exact ⟨rfl, HB0.out.trans (hb.mono HB0.out.size)⟩
theorem tells_few (hn : ¬ 200 < n) (hn6 : n < 60) :
    Calls Tryd.prog 3 #[.agg s.cs.toArray, .slice A n c, .agg #[.int .u8 (r.k.toNat : Int), .int .i64 r.p, .int .u64 (r.g : Int)], .int .i64 index] w (SaysTrue w) := by
  obtain ⟨w0, hw0⟩ : ∃ w0, w0 = (w.alloc (.cells s.cs.toArray 26)).alloc (.cells #[.int .u8 (r.k.toNat : Int), .int .i64 r.p, .int .u64 (r.g : Int)] 29) := ⟨_, rfl⟩
  have hb0 : Below w.heap.size w w0 := by rw [hw0]; exact ((Below.refl _ _).alloc (Nat.le_refl _) _).alloc (by simp) _
  have hS0 : ShB w0 w.heap.size s := by rw [hw0]; exact (ShB.new w s).later ((Below.refl _ _).alloc (Nat.le_refl _) _)
  have hR0 : RfB w0 (w.heap.size + 1) r := by
    rw [hw0]
    have := heap_alloc_new (w.alloc (.cells s.cs.toArray 26)) (.cells #[.int .u8 (r.k.toNat : Int), .int .i64 r.p, .int .u64 (r.g : Int)] 29)
    simpa [RfB, Rfv.cs] using this
  have hlen := h.len
  rw [cells_length, Nat.mul_one] at hlen
  have H := Lib.hid h
  have Hw0 := Lib.hid hw0
  have HB0 := Lib.hid hb0
  have HS0 := Lib.hid hS0
  have HR0 := Lib.hid hR0
  have HN := Lib.hid hN
  have HOK := Lib.hid hs
  clear hw0 hb0 hS0 hR0 hN hs h
  have hn60 : ¬ (n : Int) ≥ 60 := by omega
  have hni : (n : Int) ≤ 200 := by omega
  have hn2 : ¬ (n : Int) > 200 := by omega
  have hp := sput_any s HOK.out w0 (HN.out.keep HB0.out)
  obtain ⟨E, hE⟩ : ∃ E, E = putE s := ⟨_, rfl⟩
  obtain ⟨X, hX⟩ : ∃ X, X = putL s := ⟨_, rfl⟩
  obtain ⟨I, hI⟩ : ∃ I, isB s r.k r.p r.g index = I := ⟨_, rfl⟩
  rw [← hE, ← hX] at hp
  have HE := Lib.hid hE
  have HX := Lib.hid hX
  have HI := Lib.hid hI
  clear hE hX hI
  go_enter Tryd.func3, Tryd.ntmps3
  go_wp2_with (first
    | (rw [← Hw0.out])
    | (refine at_dst11 (d := 24) ?_; refine wpList_load_sh (o := ⟨some 24, _, _, _, _, _⟩) rfl (.tmp 4) rfl w.heap.size s rfl HS0.out ?_))
  refine hp.mono ?_; clear hp; rintro e w1 ⟨A1, n1, c1, rfl, hs1, hb⟩
  have B1 := Lib.hid (HB0.out.trans (hb.mono HB0.out.size))
  have S1 := Lib.hid (HS0.out.later hb)
  have R1 := Lib.hid (HR0.out.later hb)
  have SX1 := Lib.hid hs1
  have hp := rsput_any s HOK.out w1
  rw [← HE.out, ← HX.out] at hp
  clear hb hs1
  go_wp2_with (first
    | (refine at_dst11 (d := 29) ?_; refine wpList_load_sh (o := ⟨some 29, _, _, _, _, _⟩) rfl (.tmp 4) rfl w.heap.size s rfl S1.out ?_))
  refine hp.mono ?_; clear hp; rintro e w2 ⟨A2, n2, c2, rfl, hs2, hb⟩
  have hd : Below w2.heap.size w2 w2.drew := Below.drew (Below.refl _ _)
  have B2 := Lib.hid (B1.out.trans (hb.mono B1.out.size))
  have S2d := Lib.hid ((S1.out.later hb).later hd)
  have R2d := Lib.hid ((R1.out.later hb).later hd)
  have SX := Lib.hid ((SX1.out.below hb (Nat.le_refl _)).below hd (Nat.le_refl _))
  have SX2 := Lib.hid (SX1.out.below hb (Nat.le_refl _))
  have SY := Lib.hid (hs2.below hd (Nat.le_refl _))
  clear hb hs2 hd
  go_upto_region 5 with (fail)
  refine wp_region_held_drew (S := fun w' => Fr (fun _ => False) w2.drew w') (by kernel_rfl) (Fr.refl _ _) (fun hHeld => ?_)
  clear hHeld
  refine wpAnyH_take (i := 0) (oi := ⟨some 33, _, _, _, _, _⟩) (v := ?vt0) rfl (by kernel_rfl) (by kernel_rfl) (by kernel_rfl) (fun _ _ _ h => h) (Or.inl ⟨by rfl, ?yt0⟩) (Fr.refl _ _) ?rt0
  case yt0 =>
    intro wq hSw
    (try dsimp only at hSw)
    first | (go_simp; done) | (go_simp; with_reducible rfl)
  try simp only [Act.put, List.setIfInBounds_toArray, List.set_cons_zero, List.set_cons_succ]
  refine wpAnyH_take (i := 1) (oi := ⟨some 34, _, _, _, _, _⟩) (v := ?vt1) rfl (by kernel_rfl) (by kernel_rfl) (by kernel_rfl) (fun _ _ _ h => h) (Or.inl ⟨by rfl, ?yt1⟩) (Fr.refl _ _) ?rt1
  case yt1 =>
    intro wq hSw
    (try dsimp only at hSw)
    have kk := str_of (SX.out.fr hSw (fun _ _ _ _ h => h))
    first | (go_simp; done) | (go_simp; with_reducible rfl)
  try simp only [Act.put, List.setIfInBounds_toArray, List.set_cons_zero, List.set_cons_succ]
  refine wpAnyH_take (i := 2) (oi := ⟨some 35, _, _, _, _, _⟩) (v := ?vt2) rfl (by kernel_rfl) (by kernel_rfl) (by kernel_rfl) (fun _ _ _ h => h) (Or.inl ⟨by rfl, ?yt2⟩) (Fr.refl _ _) ?rt2
  case yt2 =>
    intro wq hSw
    (try dsimp only at hSw)
    first | (go_simp; done) | (go_simp; with_reducible rfl)
  try simp only [Act.put, List.setIfInBounds_toArray, List.set_cons_zero, List.set_cons_succ]
  refine wpAnyH_take (i := 3) (oi := ⟨some 36, _, _, _, _, _⟩) (v := ?vt3) rfl (by kernel_rfl) (by kernel_rfl) (by kernel_rfl) (fun _ _ _ h => h) (Or.inl ⟨by rfl, ?yt3⟩) (Fr.refl _ _) ?rt3
  case yt3 =>
    intro wq hSw
    (try dsimp only at hSw)
    have kk := str_of (SY.out.fr hSw (fun _ _ _ _ h => h))
    first | (go_simp; done) | (go_simp; with_reducible rfl)
  try simp only [Act.put, List.setIfInBounds_toArray, List.set_cons_zero, List.set_cons_succ]
  refine wpAnyH_take (i := 4) (oi := ⟨some 37, _, _, _, _, _⟩) (v := ?vt4) rfl (by kernel_rfl) (by kernel_rfl) (by kernel_rfl) (fun _ _ _ h => h) (Or.inl ⟨by rfl, ?yt4⟩) (Fr.refl _ _) ?rt4
  case yt4 =>
    intro wq hSw
    (try dsimp only at hSw)
    first | (go_simp; done) | (go_simp; with_reducible rfl)
  try simp only [Act.put, List.setIfInBounds_toArray, List.set_cons_zero, List.set_cons_succ]
  refine wpAnyH_take (i := 5) (oi := ⟨some 38, _, _, _, _, _⟩) (v := ?vt5) rfl (by kernel_rfl) (by kernel_rfl) (by kernel_rfl) (fun _ _ _ h => h) (Or.inl ⟨by rfl, ?yt5⟩) (Fr.refl _ _) ?rt5
  case yt5 =>
    intro wq hSw
    (try dsimp only at hSw)
    first | (go_simp; done) | (go_simp; with_reducible rfl)
  try simp only [Act.put, List.setIfInBounds_toArray, List.set_cons_zero, List.set_cons_succ]
  refine wpAnyH_take (i := 6) (oi := ⟨some 39, _, _, _, _, _⟩) (v := ?vt6) rfl (by kernel_rfl) (by kernel_rfl) (by kernel_rfl) (fun _ _ _ h => h) (Or.inl ⟨by rfl, ?yt6⟩) (Fr.refl _ _) ?rt6
  case yt6 =>
    intro wq hSw
    (try dsimp only at hSw)
    first | (go_simp; done) | (go_simp; with_reducible rfl)
  try simp only [Act.put, List.setIfInBounds_toArray, List.set_cons_zero, List.set_cons_succ]
  refine wpAnyH_take (i := 7) (oi := ⟨some 40, _, _, _, _, _⟩) (v := ?vt7) rfl (by kernel_rfl) (by kernel_rfl) (by kernel_rfl) (fun _ _ _ h => h) (Or.inl ⟨by rfl, ?yt7⟩) (Fr.refl _ _) ?rt7
  case yt7 =>
    intro wq hSw
    (try dsimp only at hSw)
    first | (go_simp; done) | (go_simp; with_reducible rfl)
  try simp only [Act.put, List.setIfInBounds_toArray, List.set_cons_zero, List.set_cons_succ]
  refine wpAnyH_take (i := 8) (oi := ⟨some 41, _, _, _, _, _⟩) (v := ?vt8) rfl (by kernel_rfl) (by kernel_rfl) (by kernel_rfl) (fun _ _ _ h => h) (Or.inl ⟨by rfl, ?yt8⟩) (Fr.refl _ _) ?rt8
  case yt8 =>
    intro wq hSw
    (try dsimp only at hSw)
    first | (go_simp; done) | (go_simp; with_reducible rfl)
  try simp only [Act.put, List.setIfInBounds_toArray, List.set_cons_zero, List.set_cons_succ]
  refine wpAnyH_take (i := 9) (oi := ⟨some 42, _, _, _, _, _⟩) (v := ?vt9) rfl (by kernel_rfl) (by kernel_rfl) (by kernel_rfl) (fun _ _ _ h => h) (Or.inl ⟨by rfl, ?yt9⟩) (Fr.refl _ _) ?rt9
  case yt9 =>
    intro wq hSw
    (try dsimp only at hSw)
    first | (go_simp; done) | (go_simp; with_reducible rfl)
  try simp only [Act.put, List.setIfInBounds_toArray, List.set_cons_zero, List.set_cons_succ]
  refine wpAnyH_take (i := 10) (oi := ⟨some 43, _, _, _, _, _⟩) (v := ?vt10) rfl (by kernel_rfl) (by kernel_rfl) (by kernel_rfl) (fun _ _ _ h => h) (Or.inl ⟨by rfl, ?yt10⟩) (Fr.refl _ _) ?rt10
  case yt10 =>
    intro wq hSw
    (try dsimp only at hSw)
    first | (go_simp; done) | (go_simp; with_reducible rfl)
  try simp only [Act.put, List.setIfInBounds_toArray, List.set_cons_zero, List.set_cons_succ]
  refine wpAnyH_take (i := 11) (oi := ⟨some 44, _, _, _, _, _⟩) (v := .agg s.cs.toArray) rfl (by kernel_rfl) (by kernel_rfl) (by kernel_rfl) (fun _ _ _ h => h) (Or.inl ⟨by rfl, ?yt11⟩) (Fr.refl _ _) ?rt11
  case yt11 =>
    intro wq hSw
    exact step_loadSh rfl rfl (S2d.out.fr hSw (fun h => h))
  try simp only [Act.put, List.setIfInBounds_toArray, List.set_cons_zero, List.set_cons_succ]
  refine wpAnyH_take (i := 12) (oi := ⟨some 45, _, _, _, _, _⟩) (v := .agg #[.int .u8 (r.k.toNat : Int), .int .i64 r.p, .int .u64 (r.g : Int)]) rfl (by kernel_rfl) (by kernel_rfl) (by kernel_rfl) (fun _ _ _ h => h) (Or.inl ⟨by rfl, ?yt12⟩) (Fr.refl _ _) ?rt12
  case yt12 =>
    intro wq hSw
    exact step_loadRef rfl rfl (R2d.out.fr hSw (fun h => h))
  try simp only [Act.put, List.setIfInBounds_toArray, List.set_cons_zero, List.set_cons_succ]
  refine wpAnyH_take (i := 13) (oi := ⟨some 46, _, _, _, _, _⟩) (v := ?vt13) rfl (by kernel_rfl) (by kernel_rfl) (by kernel_rfl) (fun _ _ _ h => h) (Or.inl ⟨by rfl, ?yt13⟩) (Fr.refl _ _) ?rt13
  case yt13 =>
    intro wq hSw
    (try dsimp only at hSw)
    first | (go_simp; done) | (go_simp; with_reducible rfl)
  try simp only [Act.put, List.setIfInBounds_toArray, List.set_cons_zero, List.set_cons_succ]
  refine wpAnyH_take (i := 15) (oi := ⟨some 48, _, _, _, _, _⟩) (v := .agg s.cs.toArray) rfl (by kernel_rfl) (by kernel_rfl) (by kernel_rfl) (fun _ _ _ h => h) (Or.inl ⟨by rfl, ?yt15⟩) (Fr.refl _ _) ?rt15
  case yt15 =>
    intro wq hSw
    exact step_loadSh rfl rfl (S2d.out.fr hSw (fun h => h))
  try simp only [Act.put, List.setIfInBounds_toArray, List.set_cons_zero, List.set_cons_succ]
  refine wpAnyH_take (i := 16) (oi := ⟨some 49, _, _, _, _, _⟩) (v := .agg #[.int .u8 (r.k.toNat : Int), .int .i64 r.p, .int .u64 (r.g : Int)]) rfl (by kernel_rfl) (by kernel_rfl) (by kernel_rfl) (fun _ _ _ h => h) (Or.inl ⟨by rfl, ?yt16⟩) (Fr.refl _ _) ?rt16
  case yt16 =>
    intro wq hSw
    exact step_loadRef rfl rfl (R2d.out.fr hSw (fun h => h))
  try simp only [Act.put, List.setIfInBounds_toArray, List.set_cons_zero, List.set_cons_succ]
  refine wpAnyH_take (i := 17) (oi := ⟨some 50, _, _, _, _, _⟩) (v := ?vt17) rfl (by kernel_rfl) (by kernel_rfl) (by kernel_rfl) (fun _ _ _ h => h) (Or.inl ⟨by rfl, ?yt17⟩) (Fr.refl _ _) ?rt17
  case yt17 =>
    intro wq hSw
    (try dsimp only at hSw)
    first | (go_simp; done) | (go_simp; with_reducible rfl)
  try simp only [Act.put, List.setIfInBounds_toArray, List.set_cons_zero, List.set_cons_succ]
  refine wpAnyH_ready (rs := [14]) (by kernel_rfl) (by simp) ?_
  refine AllReadyH.cons (o := ⟨some 47, _, _, _, _, _⟩) rfl (fun K hK => ?_) AllReadyH.nil
  go_simp
  refine (is_any s HOK.out r.k r.p r.g index _).mono ?_; rintro e w3 ⟨rfl, hb⟩
  rw [HI.out]
  have hfr := Fr.of_below (S := fun _ => False) hb
  have Q3 := Lib.hid ((Below.drew (Below.refl w2.heap.size w2)).trans hb)
  have S3 := Lib.hid (S2d.out.later hb)
  have R3 := Lib.hid (R2d.out.later hb)
  clear hb
  go_wp2_with fail
  refine hK.out _ _ hfr (fun hHeld => ?_)
  clear hK K hHeld
  try simp only [Act.put, List.setIfInBounds_toArray, List.set_cons_zero, List.set_cons_succ]
  refine wpAnyH_re (S' := fun w' => Fr (fun _ => False) w3 w') (fun w' h => hfr.trans h) ?_
  clear hfr
  refine wpAnyH_ready (rs := [18]) (by kernel_rfl) (by simp) ?_
  refine AllReadyH.cons (o := ⟨some 51, _, _, _, _, _⟩) rfl (fun K hK => ?_) AllReadyH.nil
  go_simp
  refine (ris_any s HOK.out r.k r.p r.g index _).mono ?_; rintro e w4 ⟨rfl, hb⟩
  rw [HI.out]
  have hfr := Fr.of_below (S := fun _ => False) hb
  have Q4 := Lib.hid (Q3.out.trans (hb.mono Q3.out.size))
  clear hb
  go_wp2_with fail
  refine hK.out _ _ hfr (fun hHeld => ?_)
  clear hK K hHeld
  try simp only [Act.put, List.setIfInBounds_toArray, List.set_cons_zero, List.set_cons_succ]
  refine wpAnyH_re (S' := fun w' => Fr (fun _ => False) w4 w') (fun w' h => hfr.trans h) ?_
  clear hfr
  refine wpAnyH_take (i := 19) (oi := ⟨some 52, _, _, _, _, _⟩) (v := ?vt19) rfl (by kernel_rfl) (by kernel_rfl) (by kernel_rfl) (fun _ _ _ h => h) (Or.inl ⟨by rfl, ?yt19⟩) (Fr.refl _ _) ?rt19
  case yt19 =>
    intro wq hSw
    (try dsimp only at hSw)
    first | (go_simp; done) | (go_simp; with_reducible rfl)
  try simp only [Act.put, List.setIfInBounds_toArray, List.set_cons_zero, List.set_cons_succ]
  refine wpAnyH_take (i := 20) (oi := ⟨some 53, _, _, _, _, _⟩) (v := ?vt20) rfl (by kernel_rfl) (by kernel_rfl) (by kernel_rfl) (fun _ _ _ h => h) (Or.inl ⟨by rfl, ?yt20⟩) (Fr.refl _ _) ?rt20
  case yt20 =>
    intro wq hSw
    (try dsimp only at hSw)
    first | (go_simp; done) | (go_simp; with_reducible rfl)
  try simp only [Act.put, List.setIfInBounds_toArray, List.set_cons_zero, List.set_cons_succ]
  refine wpAnyH_done (by kernel_rfl) ?_ _
  have B4 := Lib.hid (B2.out.trans (Q4.out.mono B2.out.size))
  have S4 := Lib.hid (H.out.below B4.out (Nat.le_refl _))
  have X4 := Lib.hid (SX2.out.below Q4.out (Nat.le_refl _))
  obtain ⟨w5, hw5⟩ : ∃ w5, w5 = w4.alloc (.cells #[.slice A n c, .slice A1 n1 c1] 27) := ⟨_, rfl⟩
  have hb5 : Below w4.heap.size w4 w5 := by rw [hw5]; exact (Below.refl _ _).alloc (Nat.le_refl _) _
  have hV : Sl w5 1 (some ⟨w4.heap.size, 0, none⟩) 2 2 [.slice A n c, .slice A1 n1 c1] := by
    rw [hw5]
    exact Sl.made w4 #[.slice A n c, .slice A1 n1 c1] 27 1 2 rfl (by decide)
  have V5 := Lib.hid hV
  have B5 := Lib.hid (B4.out.trans (hb5.mono B4.out.size))
  have S5 := Lib.hid (S4.out.below hb5 (Nat.le_refl _))
  have X5 := Lib.hid (X4.out.below hb5 (Nat.le_refl _))
  have Hw5 := Lib.hid hw5
  clear hb5 hV hw5
  have hA7 : ∀ u ∈ [Value.slice A n c, .slice A1 n1 c1], Bx w5 u := by
    intro u hu
    rcases List.mem_cons.1 hu with rfl | hu
    · exact ⟨_, _, _, l, rfl, S5.out⟩
    · rcases List.mem_cons.1 hu with rfl | hu
      · exact ⟨_, _, _, X, rfl, X5.out⟩
      · cases hu
  have A7 := Lib.hid hA7
  have V7 := V5
  have B7 := B5
  clear hA7
  go_wp2_with (rw [← Hw5.out])
  go_loopw [14] (fun i wr => ∃ (j : Nat), j ≤ 2 ∧ i = .int .i64 (j : Int) ∧ Below w5.heap.size w5 wr) (fun i _ => 2 - (intOf i).toNat)
  case atStart => exact ⟨0, by omega, rfl, Below.refl _ _⟩
  case round =>
    obtain ⟨j, hj, rfl, hb⟩ := hrel
    by_cases hlt : j < 2
    · obtain ⟨u, hu⟩ : ∃ u, [Value.slice A n c, .slice A1 n1 c1][j]? = some u := ⟨_, List.getElem?_eq_getElem (by simpa using hlt)⟩
      obtain ⟨b, o, hA, hc⟩ := V7.out.cell j u hu
      injection hA with hA
      injection hA with hA1 hA2
      subst hA1; subst hA2
      rw [Nat.zero_add] at hc
      obtain ⟨Aj, nj, cj, lj, rfl, hsj⟩ := A7.out u (List.mem_of_getElem? hu)
      have Bj := Lib.hid (B7.out.trans (hb.mono B7.out.size))
      have hcj := (hb.cell (World.block_lt_of_cell? w5 _ hc)).trans hc
      have Sj := Lib.hid (hsj.below hb (Nat.le_refl _))
      obtain ⟨wo, hwo⟩ : ∃ x, x = wr := ⟨_, rfl⟩
      have Hb := Lib.hid hb
      subst hwo
      have hg := sget_any Aj nj cj lj wo Sj.out (HN.out.keep Bj.out)
      obtain ⟨G, hG⟩ : ∃ G, getS lj = G := ⟨_, rfl⟩
      obtain ⟨E2, hE2⟩ : ∃ E, getE lj = E := ⟨_, rfl⟩
      rw [hG, hE2] at hg
      have HG := Lib.hid hG
      have HE2 := Lib.hid hE2
      have HC := Lib.hid hc
      clear hG hE2 hb hsj hc hu
      go_wp2_with fail
      refine hg.mono ?_; clear hg hcj; rintro e v1 ⟨rfl, hb⟩
      have C1 := Lib.hid (Hb.out.trans (hb.mono Hb.out.size))
      have T1 := Lib.hid (Sj.out.below hb (Nat.le_refl _))
      obtain ⟨v2, hv2⟩ : ∃ v2, v2 = v1.alloc (.cells (Sh.cs G).toArray 26) := ⟨_, rfl⟩
      have hb2 : Below v1.heap.size v1 v2 := by rw [hv2]; exact (Below.refl _ _).alloc (Nat.le_refl _) _
      have Y2 := Lib.hid (show ShB v2 v1.heap.size G by rw [hv2]; exact ShB.new v1 G)
      have C2 := Lib.hid (C1.out.trans (hb2.mono C1.out.size))
      have hcj := (C2.out.cell (World.block_lt_of_cell? w5 _ HC.out)).trans HC.out
      have T2 := T1.out.below hb2 (Nat.le_refl _)
      have hg := rsget_any Aj nj cj lj v2 T2
      rw [HG.out, HE2.out] at hg
      have Hv2 := Lib.hid hv2
      clear hb hb2 hv2 T2
      go_wp2_with (first
        | (refine at_none11 ?_; refine wpList_store_shard (o := ⟨none, _, _, _, _, _⟩) rfl (.tmp 15) (.tmp 78) rfl v1 G rfl rfl ?_; rw [← Hv2.out]))
      refine hg.mono ?_; clear hg hcj; rintro e v3 ⟨rfl, hb⟩
      have C3 := Lib.hid (C2.out.trans (hb.mono C2.out.size))
      have Y3 := Lib.hid (Y2.out.later hb)
      obtain ⟨v4, hv4⟩ : ∃ v4, v4 = v3.alloc (.cells (Sh.cs G).toArray 26) := ⟨_, rfl⟩
      have hb4 : Below v3.heap.size v3 v4 := by rw [hv4]; exact (Below.refl _ _).alloc (Nat.le_refl _) _
      have Z4 := Lib.hid (show ShB v4 v3.heap.size G by rw [hv4]; exact ShB.new v3 G)
      have Y4 := Lib.hid (Y3.out.later hb4)
      have C4 := Lib.hid (C3.out.trans (hb4.mono C3.out.size))
      have Hv4 := Lib.hid hv4
      clear hb hb4 hv4
      go_wp2_with (first
        | (refine at_none11 ?_; refine wpList_store_shard (o := ⟨none, _, _, _, _, _⟩) rfl (.tmp 17) (.tmp 86) rfl v3 G rfl rfl ?_; rw [← Hv4.out])
        | (refine at_dst11 (d := 88) ?_; refine wpList_load_sh (o := ⟨some 88, _, _, _, _, _⟩) rfl (.tmp 15) rfl v1.heap.size G rfl Y4.out ?_)
        | (refine at_dst11 (d := 89) ?_; refine wpList_load_sh (o := ⟨some 89, _, _, _, _, _⟩) rfl (.tmp 17) rfl v3.heap.size G rfl Z4.out ?_)
        | (refine at_dst11 (d := 90) ?_; refine wpList_step11 (o := ⟨some 90, _, _, _, _, _⟩) rfl _ v4 (step_neqSh (s := G) (t := G) rfl rfl rfl) ?_; rw [Sh.same_refl]))
      go_roundw
      case rel => exact ⟨j + 1, by omega, by go_num, C4.out⟩
      case measure => simp [intOf]; omega
    · obtain rfl : j = 2 := by omega
      have Bj := Lib.hid (B7.out.trans (hb.mono B7.out.size))
      have hl := lies_any wr (HN.out.keep Bj.out)
      clear hb
      go_wp2_with fail
      refine hl.mono ?_; clear hl; rintro e w9 ⟨rfl, hb⟩
      go_wp2_with fail
      go_ret
      exact ⟨rfl, Bj.out.trans (hb.mono Bj.out.size)⟩
theorem tells_more (hn : ¬ 200 < n) (hn6 : ¬ n < 60) :
    Calls Tryd.prog 3 #[.agg s.cs.toArray, .slice A n c, .agg #[.int .u8 (r.k.toNat : Int), .int .i64 r.p, .int .u64 (r.g : Int)], .int .i64 index] w (SaysTrue w) := by
  obtain ⟨w0, hw0⟩ : ∃ w0, w0 = (w.alloc (.cells s.cs.toArray 26)).alloc (.cells #[.int .u8 (r.k.toNat : Int), .int .i64 r.p, .int .u64 (r.g : Int)] 29) := ⟨_, rfl⟩
  have hb0 : Below w.heap.size w w0 := by rw [hw0]; exact ((Below.refl _ _).alloc (Nat.le_refl _) _).alloc (by simp) _
  have hS0 : ShB w0 w.heap.size s := by rw [hw0]; exact (ShB.new w s).later ((Below.refl _ _).alloc (Nat.le_refl _) _)
  have hR0 : RfB w0 (w.heap.size + 1) r := by
    rw [hw0]
    have := heap_alloc_new (w.alloc (.cells s.cs.toArray 26)) (.cells #[.int .u8 (r.k.toNat : Int), .int .i64 r.p, .int .u64 (r.g : Int)] 29)
    simpa [RfB, Rfv.cs] using this
  have hlen := h.len
  rw [cells_length, Nat.mul_one] at hlen
  have H := Lib.hid h
  have Hw0 := Lib.hid hw0
  have HB0 := Lib.hid hb0
  have HS0 := Lib.hid hS0
  have HR0 := Lib.hid hR0
  have HN := Lib.hid hN
  have HOK := Lib.hid hs
  clear hw0 hb0 hS0 hR0 hN hs h
  have hn60 : (n : Int) ≥ 60 := by omega
  have hni : (n : Int) ≤ 200 := by omega
  have hn2 : ¬ (n : Int) > 200 := by omega
  have hp := sput_any s HOK.out w0 (HN.out.keep HB0.out)
  obtain ⟨E, hE⟩ : ∃ E, E = putE s := ⟨_, rfl⟩
  obtain ⟨X, hX⟩ : ∃ X, X = putL s := ⟨_, rfl⟩
  obtain ⟨I, hI⟩ : ∃ I, isB s r.k r.p r.g index = I := ⟨_, rfl⟩
  rw [← hE, ← hX] at hp
  have HE := Lib.hid hE
  have HX := Lib.hid hX
  have HI := Lib.hid hI
  clear hE hX hI
  go_enter Tryd.func3, Tryd.ntmps3
  go_wp2_with (first
    | (rw [← Hw0.out])
    | (refine at_dst11 (d := 24) ?_; refine wpList_load_sh (o := ⟨some 24, _, _, _, _, _⟩) rfl (.tmp 4) rfl w.heap.size s rfl HS0.out ?_))
  refine hp.mono ?_; clear hp; rintro e w1 ⟨A1, n1, c1, rfl, hs1, hb⟩
  have B1 := Lib.hid (HB0.out.trans (hb.mono HB0.out.size))
  have S1 := Lib.hid (HS0.out.later hb)
  have R1 := Lib.hid (HR0.out.later hb)
  have SX1 := Lib.hid hs1
  have hp := rsput_any s HOK.out w1
  rw [← HE.out, ← HX.out] at hp
  clear hb hs1
  go_wp2_with (first
    | (refine at_dst11 (d := 29) ?_; refine wpList_load_sh (o := ⟨some 29, _, _, _, _, _⟩) rfl (.tmp 4) rfl w.heap.size s rfl S1.out ?_))
  refine hp.mono ?_; clear hp; rintro e w2 ⟨A2, n2, c2, rfl, hs2, hb⟩
  have hd : Below w2.heap.size w2 w2.drew := Below.drew (Below.refl _ _)
  have B2 := Lib.hid (B1.out.trans (hb.mono B1.out.size))
  have S2d := Lib.hid ((S1.out.later hb).later hd)
  have R2d := Lib.hid ((R1.out.later hb).later hd)
  have SX := Lib.hid ((SX1.out.below hb (Nat.le_refl _)).below hd (Nat.le_refl _))
  have SX2 := Lib.hid (SX1.out.below hb (Nat.le_refl _))
  have SY := Lib.hid (hs2.below hd (Nat.le_refl _))
  clear hb hs2 hd
  go_upto_region 5 with (fail)
  refine wp_region_held_drew (S := fun w' => Fr (fun _ => False) w2.drew w') (by kernel_rfl) (Fr.refl _ _) (fun hHeld => ?_)
  clear hHeld
  refine wpAnyH_take (i := 0) (oi := ⟨some 33, _, _, _, _, _⟩) (v := ?vt0) rfl (by kernel_rfl) (by kernel_rfl) (by kernel_rfl) (fun _ _ _ h => h) (Or.inl ⟨by rfl, ?yt0⟩) (Fr.refl _ _) ?rt0
  case yt0 =>
    intro wq hSw
    (try dsimp only at hSw)
    first | (go_simp; done) | (go_simp; with_reducible rfl)
  try simp only [Act.put, List.setIfInBounds_toArray, List.set_cons_zero, List.set_cons_succ]
  refine wpAnyH_take (i := 1) (oi := ⟨some 34, _, _, _, _, _⟩) (v := ?vt1) rfl (by kernel_rfl) (by kernel_rfl) (by kernel_rfl) (fun _ _ _ h => h) (Or.inl ⟨by rfl, ?yt1⟩) (Fr.refl _ _) ?rt1
  case yt1 =>
    intro wq hSw
    (try dsimp only at hSw)
    have kk := str_of (SX.out.fr hSw (fun _ _ _ _ h => h))
    first | (go_simp; done) | (go_simp; with_reducible rfl)
  try simp only [Act.put, List.setIfInBounds_toArray, List.set_cons_zero, List.set_cons_succ]
  refine wpAnyH_take (i := 2) (oi := ⟨some 35, _, _, _, _, _⟩) (v := ?vt2) rfl (by kernel_rfl) (by kernel_rfl) (by kernel_rfl) (fun _ _ _ h => h) (Or.inl ⟨by rfl, ?yt2⟩) (Fr.refl _ _) ?rt2
  case yt2 =>
    intro wq hSw
    (try dsimp only at hSw)
    first | (go_simp; done) | (go_simp; with_reducible rfl)
  try simp only [Act.put, List.setIfInBounds_toArray, List.set_cons_zero, List.set_cons_succ]
  refine wpAnyH_take (i := 3) (oi := ⟨some 36, _, _, _, _, _⟩) (v := ?vt3) rfl (by kernel_rfl) (by kernel_rfl) (by kernel_rfl) (fun _ _ _ h => h) (Or.inl ⟨by rfl, ?yt3⟩) (Fr.refl _ _) ?rt3
  case yt3 =>
    intro wq hSw
    (try dsimp only at hSw)
    have kk := str_of (SY.out.fr hSw (fun _ _ _ _ h => h))
    first | (go_simp; done) | (go_simp; with_reducible rfl)
  try simp only [Act.put, List.setIfInBounds_toArray, List.set_cons_zero, List.set_cons_succ]
  refine wpAnyH_take (i := 4) (oi := ⟨some 37, _, _, _, _, _⟩) (v := ?vt4) rfl (by kernel_rfl) (by kernel_rfl) (by kernel_rfl) (fun _ _ _ h => h) (Or.inl ⟨by rfl, ?yt4⟩) (Fr.refl _ _) ?rt4
  case yt4 =>
    intro wq hSw
    (try dsimp only at hSw)
    first | (go_simp; done) | (go_simp; with_reducible rfl)
  try simp only [Act.put, List.setIfInBounds_toArray, List.set_cons_zero, List.set_cons_succ]
  refine wpAnyH_take (i := 5) (oi := ⟨some 38, _, _, _, _, _⟩) (v := ?vt5) rfl (by kernel_rfl) (by kernel_rfl) (by kernel_rfl) (fun _ _ _ h => h) (Or.inl ⟨by rfl, ?yt5⟩) (Fr.refl _ _) ?rt5
  case yt5 =>
    intro wq hSw
    (try dsimp only at hSw)
    first | (go_simp; done) | (go_simp; with_reducible rfl)
  try simp only [Act.put, List.setIfInBounds_toArray, List.set_cons_zero, List.set_cons_succ]
  refine wpAnyH_take (i := 6) (oi := ⟨some 39, _, _, _, _, _⟩) (v := ?vt6) rfl (by kernel_rfl) (by kernel_rfl) (by kernel_rfl) (fun _ _ _ h => h) (Or.inl ⟨by rfl, ?yt6⟩) (Fr.refl _ _) ?rt6
  case yt6 =>
    intro wq hSw
    (try dsimp only at hSw)
    first | (go_simp; done) | (go_simp; with_reducible rfl)
  try simp only [Act.put, List.setIfInBounds_toArray, List.set_cons_zero, List.set_cons_succ]
  refine wpAnyH_take (i := 7) (oi := ⟨some 40, _, _, _, _, _⟩) (v := ?vt7) rfl (by kernel_rfl) (by kernel_rfl) (by kernel_rfl) (fun _ _ _ h => h) (Or.inl ⟨by rfl, ?yt7⟩) (Fr.refl _ _) ?rt7
  case yt7 =>
    intro wq hSw
    (try dsimp only at hSw)
    first | (go_simp; done) | (go_simp; with_reducible rfl)
  try simp only [Act.put, List.setIfInBounds_toArray, List.set_cons_zero, List.set_cons_succ]
  refine wpAnyH_take (i := 8) (oi := ⟨some 41, _, _, _, _, _⟩) (v := ?vt8) rfl (by kernel_rfl) (by kernel_rfl) (by kernel_rfl) (fun _ _ _ h => h) (Or.inl ⟨by rfl, ?yt8⟩) (Fr.refl _ _) ?rt8
  case yt8 =>
    intro wq hSw
    (try dsimp only at hSw)
    first | (go_simp; done) | (go_simp; with_reducible rfl)
  try simp only [Act.put, List.setIfInBounds_toArray, List.set_cons_zero, List.set_cons_succ]
  refine wpAnyH_take (i := 9) (oi := ⟨some 42, _, _, _, _, _⟩) (v := ?vt9) rfl (by kernel_rfl) (by kernel_rfl) (by kernel_rfl) (fun _ _ _ h => h) (Or.inl ⟨by rfl, ?yt9⟩) (Fr.refl _ _) ?rt9
  case yt9 =>
    intro wq hSw
    (try dsimp only at hSw)
    first | (go_simp; done) | (go_simp; with_reducible rfl)
  try simp only [Act.put, List.setIfInBounds_toArray, List.set_cons_zero, List.set_cons_succ]
  refine wpAnyH_take (i := 10) (oi := ⟨some 43, _, _, _, _, _⟩) (v := ?vt10) rfl (by kernel_rfl) (by kernel_rfl) (by kernel_rfl) (fun _ _ _ h => h) (Or.inl ⟨by rfl, ?yt10⟩) (Fr.refl _ _) ?rt10
  case yt10 =>
    intro wq hSw
    (try dsimp only at hSw)
    first | (go_simp; done) | (go_simp; with_reducible rfl)
  try simp only [Act.put, List.setIfInBounds_toArray, List.set_cons_zero, List.set_cons_succ]
  refine wpAnyH_take (i := 11) (oi := ⟨some 44, _, _, _, _, _⟩) (v := .agg s.cs.toArray) rfl (by kernel_rfl) (by kernel_rfl) (by kernel_rfl) (fun _ _ _ h => h) (Or.inl ⟨by rfl, ?yt11⟩) (Fr.refl _ _) ?rt11
  case yt11 =>
    intro wq hSw
    exact step_loadSh rfl rfl (S2d.out.fr hSw (fun h => h))
  try simp only [Act.put, List.setIfInBounds_toArray, List.set_cons_zero, List.set_cons_succ]
  refine wpAnyH_take (i := 12) (oi := ⟨some 45, _, _, _, _, _⟩) (v := .agg #[.int .u8 (r.k.toNat : Int), .int .i64 r.p, .int .u64 (r.g : Int)]) rfl (by kernel_rfl) (by kernel_rfl) (by kernel_rfl) (fun _ _ _ h => h) (Or.inl ⟨by rfl, ?yt12⟩) (Fr.refl _ _) ?rt12
  case yt12 =>
    intro wq hSw
    exact step_loadRef rfl rfl (R2d.out.fr hSw (fun h => h))
  try simp only [Act.put, List.setIfInBounds_toArray, List.set_cons_zero, List.set_cons_succ]
  refine wpAnyH_take (i := 13) (oi := ⟨some 46, _, _, _, _, _⟩) (v := ?vt13) rfl (by kernel_rfl) (by kernel_rfl) (by kernel_rfl) (fun _ _ _ h => h) (Or.inl ⟨by rfl, ?yt13⟩) (Fr.refl _ _) ?rt13
  case yt13 =>
    intro wq hSw
    (try dsimp only at hSw)
    first | (go_simp; done) | (go_simp; with_reducible rfl)
  try simp only [Act.put, List.setIfInBounds_toArray, List.set_cons_zero, List.set_cons_succ]
  refine wpAnyH_take (i := 15) (oi := ⟨some 48, _, _, _, _, _⟩) (v := .agg s.cs.toArray) rfl (by kernel_rfl) (by kernel_rfl) (by kernel_rfl) (fun _ _ _ h => h) (Or.inl ⟨by rfl, ?yt15⟩) (Fr.refl _ _) ?rt15
  case yt15 =>
    intro wq hSw
    exact step_loadSh rfl rfl (S2d.out.fr hSw (fun h => h))
  try simp only [Act.put, List.setIfInBounds_toArray, List.set_cons_zero, List.set_cons_succ]
  refine wpAnyH_take (i := 16) (oi := ⟨some 49, _, _, _, _, _⟩) (v := .agg #[.int .u8 (r.k.toNat : Int), .int .i64 r.p, .int .u64 (r.g : Int)]) rfl (by kernel_rfl) (by kernel_rfl) (by kernel_rfl) (fun _ _ _ h => h) (Or.inl ⟨by rfl, ?yt16⟩) (Fr.refl _ _) ?rt16
  case yt16 =>
    intro wq hSw
    exact step_loadRef rfl rfl (R2d.out.fr hSw (fun h => h))
  try simp only [Act.put, List.setIfInBounds_toArray, List.set_cons_zero, List.set_cons_succ]
  refine wpAnyH_take (i := 17) (oi := ⟨some 50, _, _, _, _, _⟩) (v := ?vt17) rfl (by kernel_rfl) (by kernel_rfl) (by kernel_rfl) (fun _ _ _ h => h) (Or.inl ⟨by rfl, ?yt17⟩) (Fr.refl _ _) ?rt17
  case yt17 =>
    intro wq hSw
    (try dsimp only at hSw)
    first | (go_simp; done) | (go_simp; with_reducible rfl)
  try simp only [Act.put, List.setIfInBounds_toArray, List.set_cons_zero, List.set_cons_succ]
  refine wpAnyH_ready (rs := [14]) (by kernel_rfl) (by simp) ?_
  refine AllReadyH.cons (o := ⟨some 47, _, _, _, _, _⟩) rfl (fun K hK => ?_) AllReadyH.nil
  go_simp
  refine (is_any s HOK.out r.k r.p r.g index _).mono ?_; rintro e w3 ⟨rfl, hb⟩
  rw [HI.out]
  have hfr := Fr.of_below (S := fun _ => False) hb
  have Q3 := Lib.hid ((Below.drew (Below.refl w2.heap.size w2)).trans hb)
  have S3 := Lib.hid (S2d.out.later hb)
  have R3 := Lib.hid (R2d.out.later hb)
  clear hb
  go_wp2_with fail
  refine hK.out _ _ hfr (fun hHeld => ?_)
  clear hK K hHeld
  try simp only [Act.put, List.setIfInBounds_toArray, List.set_cons_zero, List.set_cons_succ]
  refine wpAnyH_re (S' := fun w' => Fr (fun _ => False) w3 w') (fun w' h => hfr.trans h) ?_
  clear hfr
  refine wpAnyH_ready (rs := [18]) (by kernel_rfl) (by simp) ?_
  refine AllReadyH.cons (o := ⟨some 51, _, _, _, _, _⟩) rfl (fun K hK => ?_) AllReadyH.nil
  go_simp
  refine (ris_any s HOK.out r.k r.p r.g index _).mono ?_; rintro e w4 ⟨rfl, hb⟩
  rw [HI.out]
  have hfr := Fr.of_below (S := fun _ => False) hb
  have Q4 := Lib.hid (Q3.out.trans (hb.mono Q3.out.size))
  clear hb
  go_wp2_with fail
  refine hK.out _ _ hfr (fun hHeld => ?_)
  clear hK K hHeld
  try simp only [Act.put, List.setIfInBounds_toArray, List.set_cons_zero, List.set_cons_succ]
  refine wpAnyH_re (S' := fun w' => Fr (fun _ => False) w4 w') (fun w' h => hfr.trans h) ?_
  clear hfr
  refine wpAnyH_take (i := 19) (oi := ⟨some 52, _, _, _, _, _⟩) (v := ?vt19) rfl (by kernel_rfl) (by kernel_rfl) (by kernel_rfl) (fun _ _ _ h => h) (Or.inl ⟨by rfl, ?yt19⟩) (Fr.refl _ _) ?rt19
  case yt19 =>
    intro wq hSw
    (try dsimp only at hSw)
    first | (go_simp; done) | (go_simp; with_reducible rfl)
  try simp only [Act.put, List.setIfInBounds_toArray, List.set_cons_zero, List.set_cons_succ]
  refine wpAnyH_take (i := 20) (oi := ⟨some 53, _, _, _, _, _⟩) (v := ?vt20) rfl (by kernel_rfl) (by kernel_rfl) (by kernel_rfl) (fun _ _ _ h => h) (Or.inl ⟨by rfl, ?yt20⟩) (Fr.refl _ _) ?rt20
  case yt20 =>
    intro wq hSw
    (try dsimp only at hSw)
    first | (go_simp; done) | (go_simp; with_reducible rfl)
  try simp only [Act.put, List.setIfInBounds_toArray, List.set_cons_zero, List.set_cons_succ]
  refine wpAnyH_done (by kernel_rfl) ?_ _
  have B4 := Lib.hid (B2.out.trans (Q4.out.mono B2.out.size))
  have S4 := Lib.hid (H.out.below B4.out (Nat.le_refl _))
  have X4 := Lib.hid (SX2.out.below Q4.out (Nat.le_refl _))
  obtain ⟨w5, hw5⟩ : ∃ w5, w5 = w4.alloc (.cells #[.slice A n c, .slice A1 n1 c1] 27) := ⟨_, rfl⟩
  have hb5 : Below w4.heap.size w4 w5 := by rw [hw5]; exact (Below.refl _ _).alloc (Nat.le_refl _) _
  have hV : Sl w5 1 (some ⟨w4.heap.size, 0, none⟩) 2 2 [.slice A n c, .slice A1 n1 c1] := by
    rw [hw5]
    exact Sl.made w4 #[.slice A n c, .slice A1 n1 c1] 27 1 2 rfl (by decide)
  have V5 := Lib.hid hV
  have B5 := Lib.hid (B4.out.trans (hb5.mono B4.out.size))
  have S5 := Lib.hid (S4.out.below hb5 (Nat.le_refl _))
  have X5 := Lib.hid (X4.out.below hb5 (Nat.le_refl _))
  have Hw5 := Lib.hid hw5
  clear hb5 hV hw5
  have hn6i : (60 : Int) ≤ (n : Int) := by omega
  have hci : (60 : Int) ≤ (c : Int) := by have := H.out.cap; omega
  have hs6 := S5.out.sub1 0 60 c (by decide) (by omega) (by have := H.out.cap; omega) H.out.top
  rw [List.drop_zero, show A.map (·.add 0) = A by cases A <;> simp [Addr.add]] at hs6
  have hcl := rclosed_any A 60 c _ w5 hs6 (by decide)
  obtain ⟨L, hL⟩ : ∃ L, L = closed (l.take (60 - 0)) := ⟨_, rfl⟩
  rw [← hL] at hcl
  clear hs6 hL
  go_wp2_with (rw [← Hw5.out])
  refine hcl.mono ?_; clear hcl; rintro e w6 ⟨A6, n6, c6, rfl, ho6, hb6⟩
  have S6 := Lib.hid ho6.sl
  have B6 := Lib.hid (B5.out.trans (hb6.mono B5.out.size))
  have V6 := Lib.hid (V5.out.below hb6 (Nat.le_refl _))
  have P6 := Lib.hid (S5.out.below hb6 (Nat.le_refl _))
  have X6 := Lib.hid (X5.out.below hb6 (Nat.le_refl _))
  obtain ⟨wx, hwx⟩ : ∃ wx, wx = w6.alloc (.cells #[.slice A6 n6 c6] 27) := ⟨_, rfl⟩
  have hbx : Below w6.heap.size w6 wx := by rw [hwx]; exact (Below.refl _ _).alloc (Nat.le_refl _) _
  have hV : Sl wx 1 (some ⟨w6.heap.size, 0, none⟩) 1 1 [.slice A6 n6 c6] := by
    rw [hwx]
    exact Sl.made w6 #[.slice A6 n6 c6] 27 1 1 rfl (by decide)
  have Vx := Lib.hid hV
  have Bx6 := Lib.hid (B6.out.trans (hbx.mono B6.out.size))
  have V6x := Lib.hid (V6.out.below hbx (Nat.le_refl _))
  have P6x := Lib.hid (P6.out.below hbx (Nat.le_refl _))
  have X6x := Lib.hid (X6.out.below hbx (Nat.le_refl _))
  have S6x := Lib.hid (S6.out.below hbx (Nat.le_refl _))
  have Hwx := Lib.hid hwx
  clear ho6 hb6 hbx hV hwx
  go_wp2_with (first
    | (rw [← Hwx.out])
    | (at_builtin; refine wpList_append_sl11 (B := wx.heap.size) rfl (.tmp 60) (.tmp 64) rfl rfl (Own.full V6x.out) (Nat.le_refl _) (some ⟨w6.heap.size, 0, none⟩) 1 1 [.slice A6 n6 c6] rfl Vx.out ?ap1 (by decide) ?ap2))
  case ap1 =>
    intro u hu
    rcases List.mem_cons.1 hu with rfl | hu
    · rfl
    · cases hu
  intro A7' c7 w7 ho7 hb7
  have hV7 := ho7.sl
  have hA7 : ∀ u ∈ [Value.slice A n c, .slice A1 n1 c1] ++ [.slice A6 n6 c6], Bx w7 u := by
    intro u hu
    rcases List.mem_append.1 hu with hu | hu
    · rcases List.mem_cons.1 hu with rfl | hu
      · exact ⟨_, _, _, l, rfl, P6x.out.below hb7 (Nat.le_refl _)⟩
      · rcases List.mem_cons.1 hu with rfl | hu
        · exact ⟨_, _, _, X, rfl, X6x.out.below hb7 (Nat.le_refl _)⟩
        · cases hu
    · rcases List.mem_cons.1 hu with rfl | hu
      · exact ⟨_, _, _, L, rfl, S6x.out.below hb7 (Nat.le_refl _)⟩
      · cases hu
  obtain ⟨vs, hvs⟩ : ∃ vs, vs = [Value.slice A n c, .slice A1 n1 c1] ++ [.slice A6 n6 c6] := ⟨_, rfl⟩
  have Hvs := Lib.hid (show vs.length = 3 by rw [hvs]; rfl)
  have A7 := Lib.hid (show ∀ u ∈ vs, Bx w7 u by rw [hvs]; exact hA7)
  have V7 := Lib.hid (show Sl w7 1 A7' 3 c7 vs by rw [hvs]; exact hV7)
  have B7 := Lib.hid (Bx6.out.trans (hb7.mono Bx6.out.size))
  clear ho7 hb7 hV7 hA7 hvs
  go_wp2_with fail
  go_loopw [14] (fun i wr => ∃ (j : Nat), j ≤ 3 ∧ i = .int .i64 (j : Int) ∧ Below w7.heap.size w7 wr) (fun i _ => 3 - (intOf i).toNat)
  case atStart => exact ⟨0, by omega, rfl, Below.refl _ _⟩
  case round =>
    obtain ⟨j, hj, rfl, hb⟩ := hrel
    by_cases hlt : j < 3
    · obtain ⟨u, hu⟩ : ∃ u, vs[j]? = some u := ⟨_, List.getElem?_eq_getElem (by rw [Hvs.out]; exact hlt)⟩
      obtain ⟨b, o, hA, hc⟩ := V7.out.cell j u hu
      obtain ⟨Aj, nj, cj, lj, rfl, hsj⟩ := A7.out u (List.mem_of_getElem? hu)
      subst hA
      have Bj := Lib.hid (B7.out.trans (hb.mono B7.out.size))
      have hcj := (hb.cell (World.block_lt_of_cell? w7 _ hc)).trans hc
      have Sj := Lib.hid (hsj.below hb (Nat.le_refl _))
      obtain ⟨wo, hwo⟩ : ∃ x, x = wr := ⟨_, rfl⟩
      have Hb := Lib.hid hb
      subst hwo
      have hg := sget_any Aj nj cj lj wo Sj.out (HN.out.keep Bj.out)
      obtain ⟨G, hG⟩ : ∃ G, getS lj = G := ⟨_, rfl⟩
      obtain ⟨E2, hE2⟩ : ∃ E, getE lj = E := ⟨_, rfl⟩
      rw [hG, hE2] at hg
      have HG := Lib.hid hG
      have HE2 := Lib.hid hE2
      have HC := Lib.hid hc
      clear hG hE2 hb hsj hc hu
      go_wp2_with fail
      refine hg.mono ?_; clear hg hcj; rintro e v1 ⟨rfl, hb⟩
      have C1 := Lib.hid (Hb.out.trans (hb.mono Hb.out.size))
      have T1 := Lib.hid (Sj.out.below hb (Nat.le_refl _))
      obtain ⟨v2, hv2⟩ : ∃ v2, v2 = v1.alloc (.cells (Sh.cs G).toArray 26) := ⟨_, rfl⟩
      have hb2 : Below v1.heap.size v1 v2 := by rw [hv2]; exact (Below.refl _ _).alloc (Nat.le_refl _) _
      have Y2 := Lib.hid (show ShB v2 v1.heap.size G by rw [hv2]; exact ShB.new v1 G)
      have C2 := Lib.hid (C1.out.trans (hb2.mono C1.out.size))
      have hcj := (C2.out.cell (World.block_lt_of_cell? w7 _ HC.out)).trans HC.out
      have T2 := T1.out.below hb2 (Nat.le_refl _)
      have hg := rsget_any Aj nj cj lj v2 T2
      rw [HG.out, HE2.out] at hg
      have Hv2 := Lib.hid hv2
      clear hb hb2 hv2 T2
      go_wp2_with (first
        | (refine at_none11 ?_; refine wpList_store_shard (o := ⟨none, _, _, _, _, _⟩) rfl (.tmp 15) (.tmp 78) rfl v1 G rfl rfl ?_; rw [← Hv2.out]))
      refine hg.mono ?_; clear hg hcj; rintro e v3 ⟨rfl, hb⟩
      have C3 := Lib.hid (C2.out.trans (hb.mono C2.out.size))
      have Y3 := Lib.hid (Y2.out.later hb)
      obtain ⟨v4, hv4⟩ : ∃ v4, v4 = v3.alloc (.cells (Sh.cs G).toArray 26) := ⟨_, rfl⟩
      have hb4 : Below v3.heap.size v3 v4 := by rw [hv4]; exact (Below.refl _ _).alloc (Nat.le_refl _) _
      have Z4 := Lib.hid (show ShB v4 v3.heap.size G by rw [hv4]; exact ShB.new v3 G)
      have Y4 := Lib.hid (Y3.out.later hb4)
      have C4 := Lib.hid (C3.out.trans (hb4.mono C3.out.size))
      have Hv4 := Lib.hid hv4
      clear hb hb4 hv4
      go_wp2_with (first
        | (refine at_none11 ?_; refine wpList_store_shard (o := ⟨none, _, _, _, _, _⟩) rfl (.tmp 17) (.tmp 86) rfl v3 G rfl rfl ?_; rw [← Hv4.out])
        | (refine at_dst11 (d := 88) ?_; refine wpList_load_sh (o := ⟨some 88, _, _, _, _, _⟩) rfl (.tmp 15) rfl v1.heap.size G rfl Y4.out ?_)
        | (refine at_dst11 (d := 89) ?_; refine wpList_load_sh (o := ⟨some 89, _, _, _, _, _⟩) rfl (.tmp 17) rfl v3.heap.size G rfl Z4.out ?_)
        | (refine at_dst11 (d := 90) ?_; refine wpList_step11 (o := ⟨some 90, _, _, _, _, _⟩) rfl _ v4 (step_neqSh (s := G) (t := G) rfl rfl rfl) ?_; rw [Sh.same_refl]))
      go_roundw
      case rel => exact ⟨j + 1, by omega, by go_num, C4.out⟩
      case measure => simp [intOf]; omega
    · obtain rfl : j = 3 := by omega
      have Bj := Lib.hid (B7.out.trans (hb.mono B7.out.size))
      have hl := lies_any wr (HN.out.keep Bj.out)
      clear hb
      go_wp2_with fail
      refine hl.mono ?_; clear hl; rintro e w9 ⟨rfl, hb⟩
      go_wp2_with fail
      go_ret
      exact ⟨rfl, Bj.out.trans (hb.mono Bj.out.size)⟩
end
theorem shardTells_walk (s : Sh) (hs : s.Ok) (A : Option Addr) (n c : Nat) (l : List UInt8) (r : Rfv) (index : Int) (w : World) (h : Sl w 1 A n c (cells l)) (hN : Nt w) :
    Calls Tryd.prog 3 #[.agg s.cs.toArray, .slice A n c, .agg #[.int .u8 (r.k.toNat : Int), .int .i64 r.p, .int .u64 (r.g : Int)], .int .i64 index] w (SaysTrue w) := by
  by_cases hn : 200 < n
  · exact tells_long s hs A n c l r index w h hN hn
  by_cases hn6 : n < 60
  · exact tells_few s hs A n c l r index w h hN hn hn6
  · exact tells_more s hs A n c l r index w h hN hn hn6
end Go.Proofs.YtdhbgfnfbeapcaaDoor

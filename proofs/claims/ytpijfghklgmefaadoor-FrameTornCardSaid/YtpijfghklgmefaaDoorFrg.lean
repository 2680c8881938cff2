/-
  Changes of a record as plain data and in memory; contracts of slices.ContainsFunc over ints, of package frame's outlineOf, leaves and Right. Conditions: bounds. (Written by gen_frg.py.)
-/
import Derived.Test.YtpijfghklgmefaaDoorKd
import Derived.Test.YtpijfghklgmefaaDoorIa
import Derived.Test.YtpijfghklgmefaaDoorRa
import Derived.Test.YtpijfghklgmefaaDoorEqt
import Derived.Deep.MidRow
import Derived.Shelf.Abstract
namespace Go.Proofs.YtpijfghklgmefaaDoor
open Go.RowKit Go.Proofs
set_option linter.unusedVariables false
set_option maxRecDepth 20000
set_option maxHeartbeats 1600000

/-- A change: key, deleted or not, the blob's places, generation, size. -/
structure ChF where
  key : ByteArray
  dead : Bool
  ps : List Int
  g : Nat
  q : Int
def gtK (a b : ByteArray) : Bool := !(Op.bytesLess a.toList b.toList || a.toList == b.toList)
/-- May a change leave of its key what it does? -/
def okC (x : ChF) : Bool := if x.dead then decide (x.g = 0) && (decide (x.q = 0) && decide (x.ps.length = 0)) else !(decide (x.q < 0) || (decide (400 < x.q) || decide (400 < x.ps.length))) && !(x.ps.any fun p => decide (p < 0) || decide (599 < p))
def okCs : ByteArray → List ChF → Bool
  | _, [] => true
  | a, x :: r => gtK x.key a && (decide (x.key.size ≤ 16) && (okC x && okCs x.key r))
/-- Is a record with these changes right? -/
def okR (cs : List ChF) : Bool := decide (cs.length ≤ 16) && okCs ⟨#[]⟩ cs

/-- A change as it lies: where its places lie. -/
structure CvF where
  x : ChF
  A : Option Addr
  c : Nat
def CvF.vals (v : CvF) : List Value := [.string v.x.key, .bool v.x.dead, .slice v.A v.x.ps.length v.c, .int .u64 (v.x.g : Int), .int .i64 v.x.q]
/-- Its places read. -/
def CvF.Ok (w : World) (v : CvF) : Prop := Sl w 1 v.A v.x.ps.length v.c (icells v.x.ps)
theorem CvF.Ok.below {w w' : World} {v : CvF} (h : v.Ok w) (hb : Below w.heap.size w w') : v.Ok w' := Sl.below h hb (Nat.le_refl _)
/-- A change in a variable at block B. -/
def CvB (w : World) (B : Nat) (v : CvF) : Prop := w.heap[B]? = some (.cells v.vals.toArray 57 (0, 0))
section
variable {w w' : World} {B : Nat} {v : CvF}
theorem CvB.c0 (h : CvB w B v) : w.cell? ⟨B, 0, none⟩ = some (.string v.x.key) := by rw [cell_of_row _ _ _ _ _ _ h]; rfl
theorem CvB.c1 (h : CvB w B v) : w.cell? ⟨B, 1, none⟩ = some (.bool v.x.dead) := by rw [cell_of_row _ _ _ _ _ _ h]; rfl
theorem CvB.c2 (h : CvB w B v) : w.cell? ⟨B, 2, none⟩ = some (.slice v.A v.x.ps.length v.c) := by rw [cell_of_row _ _ _ _ _ _ h]; rfl
theorem CvB.c3 (h : CvB w B v) : w.cell? ⟨B, 3, none⟩ = some (.int .u64 (v.x.g : Int)) := by rw [cell_of_row _ _ _ _ _ _ h]; rfl
theorem CvB.c4 (h : CvB w B v) : w.cell? ⟨B, 4, none⟩ = some (.int .i64 v.x.q) := by rw [cell_of_row _ _ _ _ _ _ h]; rfl
theorem CvB.later (h : CvB w B v) (hb : Below w.heap.size w w') : CvB w' B v := (hb.block _ (block_lt h)).trans h
theorem CvB.fr {S : Nat → Prop} (h : CvB w B v) (hf : Fr S w w') (hS : ¬ S B) : CvB w' B v := hf.row_some h hS
theorem CvB.new : CvB (w.alloc (.cells v.vals.toArray 57)) w.heap.size v := heap_alloc_new w _
end
/-- The slice reads as changes. -/
structure Chs (w : World) (A : Option Addr) (n c : Nat) (l : List CvF) : Prop where
  len : l.length = n
  cap : n ≤ c
  top : c ≤ maxLen
  cell : ∀ (i : Nat) (v : CvF), l[i]? = some v → ∃ b o, A = some ⟨b, o, none⟩ ∧ (∀ (j : Nat) u, v.vals[j]? = some u → w.cell? ⟨b, o + i * 5 + j, none⟩ = some u) ∧ v.Ok w
theorem Chs.below {w w' : World} {A : Option Addr} {n c : Nat} {l : List CvF} (h : Chs w A n c l) (hb : Below w.heap.size w w') : Chs w' A n c l :=
  ⟨h.len, h.cap, h.top, fun i x hx => by
    obtain ⟨b, o, e, h1, h2⟩ := h.cell i x hx
    exact ⟨b, o, e, fun j u hu => (hb.cell (p := ⟨b, o + i * 5 + j, none⟩) (World.block_lt_of_cell? w _ (h1 j u hu))).trans (h1 j u hu), h2.below hb⟩⟩
theorem size_ch (v : CvF) : (Tryd.prog.info? 57).map (·.size) = some v.vals.toArray.size := by show _ = some 5; kernel_rfl
theorem one_ch (v : CvF) : v.vals.toArray.all (·.oneCell') = true := all_oneCell_toArray (fun u hu => by simp [CvF.vals] at hu; rcases hu with rfl | rfl | rfl | rfl | rfl <;> rfl)

section
variable (g : Nat) (eg : ∀ args w, (callFunc g args).run Tryd.prog w = .ok (.enter g args) w) (d : Int → Bool)
include eg
theorem index17_any (A : Option Addr) (n c : Nat) (l : List Int) (w : World) (h : Sl w 1 A n c (icells l)) (hd : ∀ z, z ∈ l → Calls Tryd.prog g #[.int .i64 z] w fun e w' => e = .returned (.bool (d z)) ∧ w' = w) :
    Calls Tryd.prog 66 #[.slice A n c, .func (.func g) #[] #[]] w
      fun e w' => w' = w ∧ ((e = .returned (.int .i64 (-1)) ∧ l.any d = false) ∨ ∃ k : Nat, e = .returned (.int .i64 (k : Int)) ∧ l.any d = true) := by
  have hn := h.lim
  unfold maxLen at hn
  have hl := h.len
  rw [icells_length, Nat.mul_one] at hl
  have Hs := Lib.hid h; clear h
  have Hl := Lib.hid hl; clear hl
  have HD := Lib.hid hd; clear hd
  go_enter Tryd.func66, Tryd.ntmps66
  go_wp2_with fail
  go_loopw [8] (fun i wr => ∃ k : Nat, k ≤ n ∧ i = .int .i64 (k : Int) ∧ wr = w ∧ ∀ j (hj : j < l.length), j < k → d l[j] = false) (fun i _ => n - (intOf i).toNat)
  case atStart => exact ⟨0, by omega, rfl, rfl, fun j _ hj => absurd hj (by omega)⟩
  case round =>
    obtain ⟨k, hk, rfl, hwr, hz⟩ := hrel
    obtain rfl : w = wr := hwr.symm
    have Hz := Lib.hid hz; clear hz
    by_cases hlt : k < n
    · have hkl : k < l.length := by rw [Hl.out]; exact hlt
      obtain ⟨b1, o1, rfl, hc⟩ := Hs.out.at_ hlt
      have hcell := hc k _ (icells_get l k hkl)
      have hh := HD.out l[k] (List.getElem_mem hkl)
      clear hc
      obtain ⟨z, hzz⟩ : ∃ z, z = l[k] := ⟨_, rfl⟩
      rw [← hzz] at hcell hh
      have Hzz := Lib.hid hzz; clear hzz
      cases hx : d z
      · rw [hx] at hh
        have Hx := Lib.hid hx; clear hx
        go_wp2_with fail
        refine hh.mono ?_; clear hh; rintro e w' ⟨rfl, hww⟩
        obtain rfl : w = w' := hww.symm
        go_wp2_with fail
        go_roundw
        case rel => exact ⟨k + 1, by omega, by go_num, trivial, fun j hj hjk => by
          by_cases he : j = k
          · subst he; rw [← Hzz.out]; exact Hx.out
          · exact Hz.out j hj (by omega)⟩
        case measure => simp [intOf]; omega
      · rw [hx] at hh
        have Hx := Lib.hid hx; clear hx
        go_wp2_with fail
        refine hh.mono ?_; clear hh; rintro e w' ⟨rfl, hww⟩
        obtain rfl : w = w' := hww.symm
        go_wp2_with fail
        go_ret
        refine ⟨rfl, .inr ⟨k, rfl, ?_⟩⟩
        rw [List.any_eq_true]
        exact ⟨l[k], List.getElem_mem hkl, by rw [← Hzz.out]; exact Hx.out⟩
    · obtain rfl : n = k := by omega
      go_wp2_with fail
      go_ret
      refine ⟨rfl, .inl ⟨rfl, ?_⟩⟩
      intro z hz
      obtain ⟨j, hj, rfl⟩ := List.mem_iff_getElem.1 hz
      exact Hz.out j hj (by rw [← Hl.out]; exact hj)
theorem contains17_any (A : Option Addr) (n c : Nat) (l : List Int) (w : World) (h : Sl w 1 A n c (icells l)) (hd : ∀ z, z ∈ l → Calls Tryd.prog g #[.int .i64 z] w fun e w' => e = .returned (.bool (d z)) ∧ w' = w) :
    Calls Tryd.prog 51 #[.slice A n c, .func (.func g) #[] #[]] w fun e w' => e = .returned (.bool (l.any d)) ∧ w' = w := by
  have hh := index17_any g eg d A n c l w h hd
  clear h hd
  obtain ⟨x, hx⟩ : ∃ x, x = l.any d := ⟨_, rfl⟩
  rw [← hx] at hh ⊢
  clear hx
  go_enter Tryd.func51, Tryd.ntmps51
  go_wp2_with fail
  refine hh.mono ?_; clear hh; rintro e w' ⟨rfl, ⟨rfl, rfl⟩ | ⟨d, rfl, rfl⟩⟩
  · go_wp2_with fail
    go_ret
    exact ⟨rfl, rfl⟩
  · have hd : decide ((d : Int) ≥ 0) = true := by simp
    go_wp2_with fail
    go_ret
    exact ⟨rfl, rfl⟩
end
theorem leaf1_any (z : Int) (w : World) : Calls Tryd.prog 52 #[.int .i64 z] w fun e w' => e = .returned (.bool (decide (z < 0) || decide (599 < z))) ∧ w' = w := by
  by_cases c : z < 0
  · rw [decide_eq_true c]
    go_enter Tryd.func52, Tryd.ntmps52
    go_wp2_with fail
    go_ret
    exact ⟨rfl, rfl⟩
  · rw [decide_eq_false c]
    by_cases c2 : 599 < z
    · rw [decide_eq_true c2]
      go_enter Tryd.func52, Tryd.ntmps52
      go_wp2_with fail
      go_ret
      exact ⟨rfl, rfl⟩
    · rw [decide_eq_false c2]
      go_enter Tryd.func52, Tryd.ntmps52
      go_wp2_with fail
      go_ret
      exact ⟨rfl, rfl⟩
/-- An outline as it lies. -/
def outV (x : ChF) (dead : Bool) : Array Value := #[.string x.key, .bool dead, .int .u64 (x.g : Int), .int .i64 x.q, .int .i64 (x.ps.length : Int)]
theorem at_none17 {P : Program} {ops : Array Oper} {Q : Exit → Act → World → Prop} {t : TypeId} {x y : Operand} {ty : TypeId} {pos : String} {af : Array Edge} {gd : Option (Tmp × Bool)} {rest : List Oper} {a : Act} {w : World} (h : wpList P ops Q (⟨none, .store t x y, ty, pos, af, gd⟩ :: rest) a w) : wpList P ops Q (⟨none, .store t x y, ty, pos, af, gd⟩ :: rest) a w := h
theorem at_dst17 {P : Program} {ops : Array Oper} {Q : Exit → Act → World → Prop} {d : Nat} {op : Op} {ty : TypeId} {pos : String} {af : Array Edge} {gd : Option (Tmp × Bool)} {rest : List Oper} {a : Act} {w : World} (h : wpList P ops Q (⟨some d, op, ty, pos, af, gd⟩ :: rest) a w) : wpList P ops Q (⟨some d, op, ty, pos, af, gd⟩ :: rest) a w := h
/-- The first store into a variable that has just been made. -/
theorem wpList_store_new17 {P : Program} {ops : Array Oper} {rest : List Oper} {o : Oper} {a : Act} {Q : Exit → Act → World → Prop} (hgd : o.guard = none) (ty : TypeId) (x y : Operand) (ho : o.op = .store ty x y) (w0 : World) (old new : Array Value) (t : TypeId)
    (hx : a.eval x = .pointer (some ⟨w0.heap.size, 0, none⟩)) (hy : a.eval y = .agg new) (hi : (P.info? ty).map (·.size) = some new.size) (hold : old.size = new.size) (h1 : new.all (·.oneCell') = true)
    (h : wpList P ops Q rest (a.put o.dst undef) (w0.alloc (.cells new t))) : wpList P ops Q (o :: rest) a (w0.alloc (.cells old t)) :=
  wpList_store_row hgd ty x y ho w0.heap.size new hx hy t old (heap_alloc_new w0 _) hi hold h1 (by rw [World.setRow_alloc_new]; exact h)
theorem size_out (x : ChF) (b : Bool) : (Tryd.prog.info? 92).map (·.size) = some (outV x b).size := by show _ = some 5; kernel_rfl
theorem one_out (x : ChF) (b : Bool) : (outV x b).all (·.oneCell') = true := all_oneCell_toArray (cs := [.string x.key, .bool b, .int .u64 (x.g : Int), .int .i64 x.q, .int .i64 (x.ps.length : Int)]) (fun u hu => by simp only [List.mem_cons, List.not_mem_nil, or_false] at hu; rcases hu with rfl | rfl | rfl | rfl | rfl <;> rfl)
theorem outline_any (v : CvF) (w : World) : Calls Tryd.prog 50 #[.agg v.vals.toArray] w fun e w' => e = .returned (.agg (outV v.x v.x.dead)) ∧ Below w.heap.size w w' := by
  have hb1 : Below w.heap.size w (w.alloc (.cells v.vals.toArray 57)) := (Below.refl _ _).alloc (Nat.le_refl _) _
  have hx := CvB.new (w := w) (v := v)
  obtain ⟨w1, hw1⟩ : ∃ x, x = w.alloc (.cells v.vals.toArray 57) := ⟨_, rfl⟩
  have HW1 := Lib.hid hw1
  rw [← hw1] at hx hb1
  have X2 := Lib.hid (hx.later (show Below w1.heap.size w1 (w1.alloc (.cells #[.string ⟨#[]⟩, .bool false, .int .u64 0, .int .i64 0, .int .i64 0] 92)) from (Below.refl _ _).alloc (Nat.le_refl _) _))
  have B1 := Lib.hid hb1
  have HSZ := Lib.hid (size_out v.x v.x.dead)
  have HON := Lib.hid (one_out v.x v.x.dead)
  have c0 := X2.out.c0
  have c1 := X2.out.c1
  have c2 := X2.out.c2
  have c3 := X2.out.c3
  have c4 := X2.out.c4
  clear hb1 hx hw1
  have hv : (Value.agg v.vals.toArray).cells = v.vals.toArray := by simp [Value.cells]
  go_enter Tryd.func50, Tryd.ntmps50
  go_wp2_with (first | (rw [← HW1.out]) | (refine at_none17 ?_; refine wpList_store_new17 (o := ⟨none, _, _, _, _, _⟩) rfl 92 (.tmp 2) (.tmp 17) rfl w1 _ (outV v.x v.x.dead) 92 rfl rfl HSZ.out rfl HON.out ?_))
  refine bodyPost_ret (results_cell_row Tryd.results50 _ _ w1.heap.size 92 _ (0, 0) _ rfl (heap_alloc_new w1 _) Tryd.underlying92 rfl HSZ.out) rfl ⟨rfl, B1.out.trans ((Below.refl _ _).alloc B1.out.size _)⟩
theorem flds_out : (Tryd.prog.fieldsOf 92).toList.map (fun f => (decide (f.name ≠ "_"), f.type, f.offset)) = [(true, 9, 0), (true, 4, 1), (true, 22, 2), (true, 3, 3), (true, 3, 4)] := by kernel_rfl
theorem und_out : Tryd.prog.underlying 92 = some (.struct (Tryd.prog.fieldsOf 92)) := by kernel_rfl
theorem stood_out : Tryd.prog.stoodInHeld 92 = false := by kernel_rfl
theorem eqg_out : Tryd.prog.eqGuardType Tryd.prog.depth 92 = false := by kernel_rfl
/-- Whether two outlines are one. -/
def eqO (x y : ChF) (a b : Bool) : Bool := (x.key.toList == y.key.toList) && ((a == b) && (((x.g : Int) == (y.g : Int)) && ((x.q == y.q) && (((x.ps.length : Int) == (y.ps.length : Int)) && true))))
theorem eq_out (w : World) (x y : ChF) (a b : Bool) : (Op.equalIn 10000 92 (.agg (outV x a)) (.agg (outV y b))).run Tryd.prog w = .ok (eqO x y a b) w := by
  have h0 := run_equalIn_struct (P := Tryd.prog) w 9999 92 (outV x a) (outV y b) und_out stood_out
  rw [eqFields_trip, flds_out] at h0
  exact h0.trans (eqTrip_str (P := Tryd.prog) (d := 9998) w Tryd.underlying9 (o := 0) (xs := outV x a) (ys := outV y b) rfl rfl _ (eqTrip_bool w Tryd.underlying4 (o := 1) rfl rfl _ (eqTrip_int w Tryd.underlying22 (o := 2) rfl rfl _ (eqTrip_int w Tryd.underlying3 (o := 3) rfl rfl _ (eqTrip_int w Tryd.underlying3 (o := 4) rfl rfl [] (r := true) rfl)))))
theorem step_eqo {ρ : Operand → Value} {o : Oper} {p q : Operand} {w : World} {x y : ChF} {a b : Bool} {T : TypeId} (ho : o.op = .binOp .eql 92 p q T) (hx : ρ p = .agg (outV x a)) (hy : ρ q = .agg (outV y b)) : (execOp ρ o).run Tryd.prog w = .ok (.value (.bool (eqO x y a b))) w := by
  have h : (binOp .eql 92 (.agg (outV x a)) (.agg (outV y b))).run Tryd.prog w = .ok (.bool (eqO x y a b)) w := by rw [run_eql_struct, eq_out]; rfl
  have g' := fun op => run_eqGuard_agg (P := Tryd.prog) w op 92 p q (outV x a) (outV y b) eqg_out
  unfold execOp
  simp [ho, hx, hy, h, g', Result.andThen]
theorem step_loadCh {ρ : Operand → Value} {o : Oper} {x : Operand} {w : World} {B : Nat} {v : CvF} (ho : o.op = .load 57 x) (hx : ρ x = .pointer (some ⟨B, 0, none⟩)) (h : CvB w B v) : (execOp ρ o).run Tryd.prog w = .ok (.value (.agg v.vals.toArray)) w := by
  unfold execOp
  simp only [ho, hx, Instr.loadAt, Instr.sureAddr, Sem.run_bind, Sem.run_pure, Result.andThen_ok, run_loadVar_row w B _ 57 v.vals.toArray (0, 0) _ h Tryd.underlying57 rfl (size_ch v)]
theorem leaves_dead (v : CvF) (hd : v.x.dead = true) (w : World) : Calls Tryd.prog 23 #[.agg v.vals.toArray] w fun e w' => e = .returned (.bool (okC v.x)) ∧ Below w.heap.size w w' := by
  have hb1 : Below w.heap.size w (w.alloc (.cells v.vals.toArray 57)) := (Below.refl _ _).alloc (Nat.le_refl _) _
  have hx := CvB.new (w := w) (v := v)
  obtain ⟨w1, hw1⟩ : ∃ x, x = w.alloc (.cells v.vals.toArray 57) := ⟨_, rfl⟩
  have HW1 := Lib.hid hw1
  rw [← hw1] at hx hb1
  have X := Lib.hid hx
  have B1 := Lib.hid hb1
  have c1 := hx.c1
  rw [hd] at c1
  have HD := Lib.hid hd
  clear hb1 hx hw1 hd
  have hv : (Value.agg v.vals.toArray).cells = v.vals.toArray := by simp [Value.cells]
  go_enter Tryd.func23, Tryd.ntmps23
  go_wp2_with (rw [← HW1.out])
  refine wp_region_held_drew (S := fun w' => Fr (fun _ => False) w1.drew w') (by kernel_rfl) (Fr.refl _ _) (fun hHeld => ?_)
  clear hHeld
  refine wpAnyH_take (i := 0) (oi := ⟨some 6, _, _, _, _, _⟩) (v := .agg v.vals.toArray) rfl (by kernel_rfl) (by kernel_rfl) (by kernel_rfl) (fun _ _ _ h => h) (Or.inl ⟨by rfl, ?yg0⟩) (Fr.refl _ _) ?rg0
  case yg0 =>
    intro wq hSw
    exact step_loadCh rfl rfl (X.out.fr ((Fr.of_below (Below.drew (Below.refl _ _))).trans hSw) (fun h => h))
  try simp only [Act.put, List.setIfInBounds_toArray, List.set_cons_zero, List.set_cons_succ]
  refine wpAnyH_take (i := 2) (oi := ⟨some 8, _, _, _, _, _⟩) (v := ?vg2) rfl (by kernel_rfl) (by kernel_rfl) (by kernel_rfl) (fun _ _ _ h => h) (Or.inl ⟨by rfl, ?yg2⟩) (Fr.refl _ _) ?rg2
  case yg2 =>
    intro wq hSw
    (try dsimp only at hSw)
    first | (go_simp; done) | (go_simp; with_reducible rfl)
  try simp only [Act.put, List.setIfInBounds_toArray, List.set_cons_zero, List.set_cons_succ]
  refine wpAnyH_take (i := 3) (oi := ⟨some 9, _, _, _, _, _⟩) (v := ?vg3) rfl (by kernel_rfl) (by kernel_rfl) (by kernel_rfl) (fun _ _ _ h => h) (Or.inl ⟨by rfl, ?yg3⟩) (Fr.refl _ _) ?rg3
  case yg3 =>
    intro wq hSw
    (try dsimp only at hSw)
    have hq := (X.out.fr ((Fr.of_below (Below.drew (Below.refl _ _))).trans hSw) (fun h => h)).c0
    first | (go_simp; done) | (go_simp; with_reducible rfl)
  try simp only [Act.put, List.setIfInBounds_toArray, List.set_cons_zero, List.set_cons_succ]
  refine wpAnyH_take (i := 4) (oi := ⟨some 10, _, _, _, _, _⟩) (v := ?vg4) rfl (by kernel_rfl) (by kernel_rfl) (by kernel_rfl) (fun _ _ _ h => h) (Or.inl ⟨by rfl, ?yg4⟩) (Fr.refl _ _) ?rg4
  case yg4 =>
    intro wq hSw
    (try dsimp only at hSw)
    first | (go_simp; done) | (go_simp; with_reducible rfl)
  try simp only [Act.put, List.setIfInBounds_toArray, List.set_cons_zero, List.set_cons_succ]
  refine wpAnyH_ready (rs := [1]) (by kernel_rfl) (by simp) ?_
  refine AllReadyH.cons (o := ⟨some 7, _, _, _, _, _⟩) rfl (fun K hK => ?_) AllReadyH.nil
  go_simp
  refine (outline_any v w1.drew).mono ?_; rintro e w2 ⟨rfl, hb2⟩
  have hfr : Fr (fun _ => False) w1.drew w2 := Fr.of_below hb2
  have B2 := Lib.hid (B1.out.trans ((Below.drew (Below.refl _ _)).trans (hb2.mono B1.out.size)))
  clear hb2
  go_wp2_with fail
  refine hK.out _ _ hfr (fun hHeld => ?_)
  clear hK K hHeld
  try simp only [Act.put, List.setIfInBounds_toArray, List.set_cons_zero, List.set_cons_succ]
  refine wpAnyH_re (S' := fun w' => Fr (fun _ => False) w2 w') (fun w' h => hfr.trans h) ?_
  clear hfr
  refine wpAnyH_ready (rs := [5]) (by kernel_rfl) (by simp) ?_
  refine AllReadyH.cons (o := ⟨some 11, _, _, _, _, _⟩) rfl (fun K hK => ?_) AllReadyH.nil
  go_simp
  refine (outline_any ⟨⟨v.x.key, true, [], 0, 0⟩, none, 0⟩ w2).mono ?_; rintro e w3 ⟨rfl, hb3⟩
  have hfr : Fr (fun _ => False) w2 w3 := Fr.of_below hb3
  have B3 := Lib.hid (B2.out.trans (hb3.mono B2.out.size))
  clear hb3
  go_wp2_with fail
  refine hK.out _ _ hfr (fun hHeld => ?_)
  clear hK K hHeld
  try simp only [Act.put, List.setIfInBounds_toArray, List.set_cons_zero, List.set_cons_succ]
  refine wpAnyH_re (S' := fun w' => Fr (fun _ => False) w3 w') (fun w' h => hfr.trans h) ?_
  clear hfr
  refine wpAnyH_take (i := 6) (oi := ⟨some 12, _, _, _, _, _⟩) (v := .bool (eqO v.x ⟨v.x.key, true, [], 0, 0⟩ v.x.dead true)) rfl (by kernel_rfl) (by kernel_rfl) (by kernel_rfl) (fun _ _ _ h => h) (Or.inl ⟨by rfl, ?yg6⟩) (Fr.refl _ _) ?rg6
  case yg6 =>
    intro wq hSw
    exact step_eqo rfl rfl rfl
  try simp only [Act.put, List.setIfInBounds_toArray, List.set_cons_zero, List.set_cons_succ]
  refine wpAnyH_take (i := 7) (oi := ⟨some 2, _, _, _, _, _⟩) (v := ?vg7) rfl (by kernel_rfl) (by kernel_rfl) (by kernel_rfl) (fun _ _ _ h => h) (Or.inl ⟨by rfl, ?yg7⟩) (Fr.refl _ _) ?rg7
  case yg7 =>
    intro wq hSw
    (try dsimp only at hSw)
    first | (go_simp; done) | (go_simp; with_reducible rfl)
  try simp only [Act.put, List.setIfInBounds_toArray, List.set_cons_zero, List.set_cons_succ]
  refine wpAnyH_done (by kernel_rfl) ?_ _
  go_wp2_with fail
  go_ret
  refine ⟨?_, B3.out⟩
  have hd := HD.out
  unfold eqO okC
  rw [hd]
  by_cases h1 : v.x.g = 0 <;> by_cases h2 : v.x.q = 0 <;> by_cases h3 : v.x.ps.length = 0 <;> simp [h1, h2, h3]
theorem size_blf (A : Option Addr) (n c : Nat) (g : Nat) (q : Int) : (Tryd.prog.info? 55).map (·.size) = some [Value.slice A n c, .int .u64 (g : Int), .int .i64 q].length := by show _ = some 3; kernel_rfl
theorem leaves_alive (v : CvF) (hd : v.x.dead = false) (w : World) (h : v.Ok w) : Calls Tryd.prog 23 #[.agg v.vals.toArray] w fun e w' => e = .returned (.bool (okC v.x)) ∧ Below w.heap.size w w' := by
  have hlim := Sl.lim h
  unfold maxLen at hlim
  have hb1 : Below w.heap.size w (w.alloc (.cells v.vals.toArray 57)) := (Below.refl _ _).alloc (Nat.le_refl _) _
  have hx := CvB.new (w := w) (v := v)
  obtain ⟨w1, hw1⟩ : ∃ x, x = w.alloc (.cells v.vals.toArray 57) := ⟨_, rfl⟩
  have HW1 := Lib.hid hw1
  rw [← hw1] at hx hb1
  have hr : w1.rangeAt w.heap.size 2 [.slice v.A v.x.ps.length v.c, .int .u64 (v.x.g : Int), .int .i64 v.x.q] := fun j u hu => by
    rcases j with _ | _ | _ | j
    · simp at hu; subst hu; exact hx.c2
    · simp at hu; subst hu; exact hx.c3
    · simp at hu; subst hu; exact hx.c4
    · simp at hu
  have hb2 : Below w1.heap.size w1 (w1.alloc (.cells #[.slice v.A v.x.ps.length v.c, .int .u64 (v.x.g : Int), .int .i64 v.x.q] 55)) := (Below.refl _ _).alloc (Nat.le_refl _) _
  have hx2 := heap_alloc_new w1 (.cells #[.slice v.A v.x.ps.length v.c, .int .u64 (v.x.g : Int), .int .i64 v.x.q] 55)
  obtain ⟨w2, hw2⟩ : ∃ x, x = w1.alloc (.cells #[.slice v.A v.x.ps.length v.c, .int .u64 (v.x.g : Int), .int .i64 v.x.q] 55) := ⟨_, rfl⟩
  have HW2 := Lib.hid hw2
  rw [← hw2] at hx2 hb2
  have hb := hb1.trans (hb2.mono hb1.size)
  have d0 : w2.cell? ⟨w1.heap.size, 0, none⟩ = some (.slice v.A v.x.ps.length v.c) := by rw [cell_of_row _ _ _ _ _ _ hx2]; rfl
  have d2 : w2.cell? ⟨w1.heap.size, 2, none⟩ = some (.int .i64 v.x.q) := by rw [cell_of_row _ _ _ _ _ _ hx2]; rfl
  have c1 := hx.c1
  rw [hd] at c1
  have hcf := contains17_any 52 (enters_of Tryd.func52 (by kernel_rfl) rfl) (fun p => decide (p < 0) || decide (599 < p)) v.A v.x.ps.length v.c v.x.ps w2 (h.below hb) (fun z _ => leaf1_any z w2)
  have hok : okC v.x = (!(decide (v.x.q < 0) || (decide (400 < v.x.q) || decide (400 < v.x.ps.length))) && !(v.x.ps.any fun p => decide (p < 0) || decide (599 < p))) := by unfold okC; rw [hd]; rfl
  obtain ⟨r, hr2⟩ : ∃ r, r = v.x.ps.any fun p => decide (p < 0) || decide (599 < p) := ⟨_, rfl⟩
  rw [← hr2] at hcf hok
  have HOK := Lib.hid hok
  have HR := Lib.hid hr
  have HB := Lib.hid hb
  have HSZ := Lib.hid (size_blf v.A v.x.ps.length v.c v.x.g v.x.q)
  have HON := Lib.hid (show (#[.slice v.A v.x.ps.length v.c, .int .u64 (v.x.g : Int), .int .i64 v.x.q] : Array Value).all (·.oneCell') = true from all_oneCell_toArray (cs := [.slice v.A v.x.ps.length v.c, .int .u64 (v.x.g : Int), .int .i64 v.x.q]) (fun u hu => by simp only [List.mem_cons, List.not_mem_nil, or_false] at hu; rcases hu with rfl | rfl | rfl <;> rfl))
  have HCF := Lib.hid hcf
  clear hb1 hx hw1 hd hr hb2 hx2 hw2 hb hr2 hok h hcf
  have hv : (Value.agg v.vals.toArray).cells = v.vals.toArray := by simp [Value.cells]
  by_cases h1 : v.x.q < 0
  · have D1 := Lib.hid (decide_eq_true h1)
    go_enter Tryd.func23, Tryd.ntmps23
    go_wp2_with (first | (rw [← HW1.out]) | (refine at_dst17 (d := 14) ?_; refine wpList_load_mid (op := ⟨some 14, _, _, _, _, _⟩) rfl 55 (.tmp 13) rfl w.heap.size 2 rfl _ _ HR.out Tryd.underlying55 rfl HSZ.out ?_) | (refine at_none17 ?_; refine wpList_store_new17 (o := ⟨none, _, _, _, _, _⟩) rfl 55 (.tmp 3) (.tmp 14) rfl w1 _ _ 55 rfl rfl HSZ.out rfl HON.out ?_; rw [← HW2.out]))
    go_ret
    refine ⟨?_, HB.out⟩
    rw [HOK.out, D1.out]
    simp
  · by_cases h2 : 400 < v.x.q
    · have D1 := Lib.hid (decide_eq_false h1)
      have D2 := Lib.hid (decide_eq_true h2)
      go_enter Tryd.func23, Tryd.ntmps23
      go_wp2_with (first | (rw [← HW1.out]) | (refine at_dst17 (d := 14) ?_; refine wpList_load_mid (op := ⟨some 14, _, _, _, _, _⟩) rfl 55 (.tmp 13) rfl w.heap.size 2 rfl _ _ HR.out Tryd.underlying55 rfl HSZ.out ?_) | (refine at_none17 ?_; refine wpList_store_new17 (o := ⟨none, _, _, _, _, _⟩) rfl 55 (.tmp 3) (.tmp 14) rfl w1 _ _ 55 rfl rfl HSZ.out rfl HON.out ?_; rw [← HW2.out]))
      go_ret
      refine ⟨?_, HB.out⟩
      rw [HOK.out, D1.out, D2.out]
      simp
    · by_cases h3 : 400 < v.x.ps.length
      · have h3b : (400 : Int) < (v.x.ps.length : Int) := by omega
        have D1 := Lib.hid (decide_eq_false h1)
        have D2 := Lib.hid (decide_eq_false h2)
        have D3 := Lib.hid (decide_eq_true h3)
        go_enter Tryd.func23, Tryd.ntmps23
        go_wp2_with (first | (rw [← HW1.out]) | (refine at_dst17 (d := 14) ?_; refine wpList_load_mid (op := ⟨some 14, _, _, _, _, _⟩) rfl 55 (.tmp 13) rfl w.heap.size 2 rfl _ _ HR.out Tryd.underlying55 rfl HSZ.out ?_) | (refine at_none17 ?_; refine wpList_store_new17 (o := ⟨none, _, _, _, _, _⟩) rfl 55 (.tmp 3) (.tmp 14) rfl w1 _ _ 55 rfl rfl HSZ.out rfl HON.out ?_; rw [← HW2.out]))
        go_ret
        refine ⟨?_, HB.out⟩
        rw [HOK.out, D1.out, D2.out, D3.out]
        simp
      · have h3b : ¬ (400 : Int) < (v.x.ps.length : Int) := by omega
        have D1 := Lib.hid (decide_eq_false h1)
        have D2 := Lib.hid (decide_eq_false h2)
        have D3 := Lib.hid (decide_eq_false h3)
        go_enter Tryd.func23, Tryd.ntmps23
        go_wp2_with (first | (rw [← HW1.out]) | (refine at_dst17 (d := 14) ?_; refine wpList_load_mid (op := ⟨some 14, _, _, _, _, _⟩) rfl 55 (.tmp 13) rfl w.heap.size 2 rfl _ _ HR.out Tryd.underlying55 rfl HSZ.out ?_) | (refine at_none17 ?_; refine wpList_store_new17 (o := ⟨none, _, _, _, _, _⟩) rfl 55 (.tmp 3) (.tmp 14) rfl w1 _ _ 55 rfl rfl HSZ.out rfl HON.out ?_; rw [← HW2.out]))
        refine HCF.out.mono ?_; rintro e w3 ⟨rfl, hw3⟩
        obtain rfl : w2 = w3 := hw3.symm
        go_wp2_with fail
        go_ret
        refine ⟨?_, HB.out⟩
        rw [HOK.out, D1.out, D2.out, D3.out]
        simp
end Go.Proofs.YtpijfghklgmefaaDoor

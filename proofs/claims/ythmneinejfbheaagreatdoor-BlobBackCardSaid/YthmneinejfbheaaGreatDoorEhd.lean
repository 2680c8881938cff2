/-
  Contracts of package blob's Right, and of the document's. Conditions: bounds. (Written by gen_ehd.py.)
-/
import Derived.Test.YthmneinejfbheaaGreatDoorEhc
set_option linter.unusedVariables false
set_option maxRecDepth 20000
set_option maxHeartbeats 1600000
namespace Go.Proofs.YthmneinejfbheaaGreatDoor
open Go.RowKit Go.Proofs
section
variable {ρ : Operand → Value} {o : Oper} {x y : Operand} {w : World} {a b : Int} {t u : TypeId} {r : Bool}
theorem step_lt15 (ho : o.op = .binOp .lss t x y u) (hx : ρ x = .int .i64 a) (hy : ρ y = .int .i64 b) (hr : decide (a < b) = r) : (execOp ρ o).run Tryz.prog w = .ok (.value (.bool r)) w := by
 subst hr
 unfold execOp
 simp [ho, hx, hy, go_sem]
theorem step_gt15 (ho : o.op = .binOp .gtr t x y u) (hx : ρ x = .int .i64 a) (hy : ρ y = .int .i64 b) (hr : decide (b < a) = r) : (execOp ρ o).run Tryz.prog w = .ok (.value (.bool r)) w := by
 subst hr
 unfold execOp
 simp [ho, hx, hy, go_sem]
theorem step_le15 (ho : o.op = .binOp .leq t x y u) (hx : ρ x = .int .i64 a) (hy : ρ y = .int .i64 b) (hr : decide (a ≤ b) = r) : (execOp ρ o).run Tryz.prog w = .ok (.value (.bool r)) w := by
 subst hr
 unfold execOp
 simp [ho, hx, hy, go_sem]
theorem step_eq15 (ho : o.op = .binOp .eql t x y u) (hx : ρ x = .int .i64 a) (hy : ρ y = .int .i64 b) (hr : decide (a = b) = r) : (execOp ρ o).run Tryz.prog w = .ok (.value (.bool r)) w := by
 have e : (a == b) = decide (a = b) := rfl
 rw [← e] at hr
 subst hr
 unfold execOp
 simp [ho, hx, hy, go_sem]
theorem step_ne15 (ho : o.op = .binOp .neq t x y u) (hx : ρ x = .int .i64 a) (hy : ρ y = .int .i64 b) (hr : decide (a = b) = !r) : (execOp ρ o).run Tryz.prog w = .ok (.value (.bool r)) w := by
 have e : (a == b) = decide (a = b) := rfl
 rw [← e] at hr
 obtain rfl : r = !(a == b) := by rw [hr, Bool.not_not]
 unfold execOp
 simp [ho, hx, hy, go_sem]
 rfl
end
def rightZ (R : Nat) (zs : List Int) (z : Int) : Bool := decide (0 ≤ z) && decide (z ≤ 400) && decide ((zs.length : Int) = (countZ R z : Nat)) && !belowL zs
theorem right15 {v : Value} {R : Nat} (A : Option Addr) (n c : Nat) (zs : List Int) (g z : Int) (w : World) (hR : Rm w v R) (h : Sl w 1 A n c (icells zs)) (hl : zs.length = n) (h1 : -9223372036854775808 ≤ z) (h2 : z < 9223372036854775808) :
  Calls Tryz.prog 14 #[v, .agg #[.slice A n c, .int .u64 g, .int .i64 z]] w fun e w' => e = .returned (.bool (rightZ R zs z)) ∧ Below w.heap.size w w' := by
 have hb0 : Below w.heap.size w (w.alloc (.cells #[.slice A n c, .int .u64 g, .int .i64 z] 25)) := (Below.refl _ _).alloc (Nat.le_refl _) _
 have hx0 := Bl3.new (w := w) (A := A) (n := n) (c := c) (g := g) (z := z)
 have hct := fun W (hb : Below w.heap.size w W) => count15 (hR.later hb) z h1 h2
 have hbl := fun W (hb : Below w.heap.size w W) => below15 A n c zs W (h.below hb (Nat.le_refl _))
 have C0 := qH hx0.c0
 have C2 := qH hx0.c2
 have HB := qH hb0
 have HC := qH hct
 have HE := qH hbl
 clear hR h hb0 hx0 hct hbl h1 h2
 unfold rightZ
 rw [hl]
 obtain ⟨q, hq⟩ : ∃ q, q = countZ R z := ⟨_, rfl⟩
 rw [← hq] at HC ⊢
 obtain ⟨y, hy⟩ : ∃ y, y = belowL zs := ⟨_, rfl⟩
 rw [← hy] at HE ⊢
 clear hq hy hl
 by_cases c1 : 0 ≤ z
 ·by_cases c2 : z ≤ 400
  ·by_cases c3 : (n : Int) = (q : Int)
   ·have H1 := qH (decide_eq_true c1)
    have H2 := qH (decide_eq_true c2)
    have H3 := qH (decide_eq_true c3)
    rw [decide_eq_true c1, decide_eq_true c2, decide_eq_true c3]
    clear c1 c2 c3
    go_enter Tryz.func14, Tryz.ntmps14
    go_wp2_with fail
    obtain ⟨w1, hw1⟩ : ∃ x, x = w.alloc (.cells #[.slice A n c, .int .u64 g, .int .i64 z] 25) := ⟨_, rfl⟩
    rw [← hw1] at C0 C2 HB ⊢
    clear hw1
    refine wp_region_held_drew (S := fun w' => Fr (fun _ => False) w1.drew w') (by kernel_rfl) (Fr.refl _ _) (fun hHeld => ?_)
    clear hHeld
    refine tA 0 (some 5) rfl (Fr.refl _ _) ?_
    refine tL 1 (some 6) (v := ?vyes1) rfl ?yyes1 (Fr.refl _ _) ?ryes1
    case yyes1 =>
     intro wq hSw
     (try dsimp only at hSw)
     have hq := hSw.cell_some C2.out (fun h => h)
     go_simp <;> with_reducible rfl
    try simp only [Act.put,sA,sB,sC]
    refine tL 2 (some 7) (v := (.bool true)) rfl ?yyes2 (Fr.refl _ _) ?ryes2
    case yyes2 =>
     intro wq hSw
     exact step_le15 (x := .const (.int .i64 0)) (y := .tmp 6) rfl rfl rfl H1.out
    try simp only [Act.put,sA,sB,sC]
    refine tA 3 (some 8) rfl (Fr.refl _ _) ?_
    refine tA 4 (some 9) rfl (Fr.refl _ _) ?_
    refine tL 5 (some 10) (v := ?vyes5) rfl ?yyes5 (Fr.refl _ _) ?ryes5
    case yyes5 =>
     intro wq hSw
     (try dsimp only at hSw)
     have hq := hSw.cell_some C2.out (fun h => h)
     go_simp <;> with_reducible rfl
    try simp only [Act.put,sA,sB,sC]
    refine tL 6 (some 11) (v := (.bool true)) rfl ?yyes6 (Fr.refl _ _) ?ryes6
    case yyes6 =>
     intro wq hSw
     exact step_le15 (x := .tmp 10) (y := .const (.int .i64 400)) rfl rfl rfl H2.out
    try simp only [Act.put,sA,sB,sC]
    refine tA 7 (some 12) rfl (Fr.refl _ _) ?_
    refine tA 8 (some 13) rfl (Fr.refl _ _) ?_
    refine tA 9 (some 14) rfl (Fr.refl _ _) ?_
    refine tL 10 (some 15) (v := ?vyes10) rfl ?yyes10 (Fr.refl _ _) ?ryes10
    case yyes10 =>
     intro wq hSw
     (try dsimp only at hSw)
     have hq := hSw.cell_some C0.out (fun h => h)
     go_simp <;> with_reducible rfl
    try simp only [Act.put,sA,sB,sC]
    refine tA 11 (some 16) rfl (Fr.refl _ _) ?_
    refine tA 12 (some 17) rfl (Fr.refl _ _) ?_
    refine tA 13 (some 18) rfl (Fr.refl _ _) ?_
    refine tL 14 (some 19) (v := ?vyes14) rfl ?yyes14 (Fr.refl _ _) ?ryes14
    case yyes14 =>
     intro wq hSw
     (try dsimp only at hSw)
     have hq := hSw.cell_some C2.out (fun h => h)
     go_simp <;> with_reducible rfl
    try simp only [Act.put,sA,sB,sC]
    refine rW 15 (some 20) rfl fun K hK => ?_
    go_simp
    refine (HC.out w1.drew HB.out.drew).mono ?_; rintro e v9 ⟨rfl, hw⟩
    obtain rfl : w1.drew = v9 := hw.symm
    have hfr : Fr (fun _ => False) w1.drew w1.drew := Fr.refl _ _
    go_wp2_with fail
    refine hK.out _ _ hfr (fun hHeld => ?_)
    clear hK K hHeld
    try simp only [Act.put,sA,sB,sC]
    refine wpAnyH_re (S' := fun w' => Fr (fun _ => False) w1.drew w') (fun w' h => hfr.trans h) ?_
    clear hfr
    refine tL 16 (some 21) (v := (.bool true)) rfl ?yyes16 (Fr.refl _ _) ?ryes16
    case yyes16 =>
     intro wq hSw
     exact step_eq15 (x := .tmp 16) (y := .tmp 20) rfl rfl rfl H3.out
    try simp only [Act.put,sA,sB,sC]
    refine tA 17 (some 22) rfl (Fr.refl _ _) ?_
    refine tA 18 (some 23) rfl (Fr.refl _ _) ?_
    refine tA 19 (some 24) rfl (Fr.refl _ _) ?_
    refine tL 20 (some 25) (v := ?vyes20) rfl ?yyes20 (Fr.refl _ _) ?ryes20
    case yyes20 =>
     intro wq hSw
     (try dsimp only at hSw)
     have hq := hSw.cell_some C0.out (fun h => h)
     go_simp <;> with_reducible rfl
    try simp only [Act.put,sA,sB,sC]
    refine rW 21 (some 26) rfl fun K hK => ?_
    go_simp
    refine (HE.out w1.drew HB.out.drew).mono ?_; rintro e v9 ⟨rfl, hw⟩
    obtain rfl : w1.drew = v9 := hw.symm
    have hfr : Fr (fun _ => False) w1.drew w1.drew := Fr.refl _ _
    go_wp2_with fail
    refine hK.out _ _ hfr (fun hHeld => ?_)
    clear hK K hHeld
    try simp only [Act.put,sA,sB,sC]
    refine wpAnyH_re (S' := fun w' => Fr (fun _ => False) w1.drew w') (fun w' h => hfr.trans h) ?_
    clear hfr
    refine tA 22 (some 27) rfl (Fr.refl _ _) ?_
    refine tA 23 (some 28) rfl (Fr.refl _ _) ?_
    refine tA 24 (some 4) rfl (Fr.refl _ _) ?_
    refine tD ?_
    go_wp2_with fail
    go_ret
    exact ⟨rfl, HB.out.drew⟩
   ·have H1 := qH (decide_eq_true c1)
    have H2 := qH (decide_eq_true c2)
    have H3 := qH (decide_eq_false c3)
    rw [decide_eq_true c1, decide_eq_true c2, decide_eq_false c3]
    clear c1 c2 c3
    go_enter Tryz.func14, Tryz.ntmps14
    go_wp2_with fail
    obtain ⟨w1, hw1⟩ : ∃ x, x = w.alloc (.cells #[.slice A n c, .int .u64 g, .int .i64 z] 25) := ⟨_, rfl⟩
    rw [← hw1] at C0 C2 HB ⊢
    clear hw1
    refine wp_region_held_drew (S := fun w' => Fr (fun _ => False) w1.drew w') (by kernel_rfl) (Fr.refl _ _) (fun hHeld => ?_)
    clear hHeld
    refine tA 0 (some 5) rfl (Fr.refl _ _) ?_
    refine tL 1 (some 6) (v := ?vno31) rfl ?yno31 (Fr.refl _ _) ?rno31
    case yno31 =>
     intro wq hSw
     (try dsimp only at hSw)
     have hq := hSw.cell_some C2.out (fun h => h)
     go_simp <;> with_reducible rfl
    try simp only [Act.put,sA,sB,sC]
    refine tL 2 (some 7) (v := (.bool true)) rfl ?yno32 (Fr.refl _ _) ?rno32
    case yno32 =>
     intro wq hSw
     exact step_le15 (x := .const (.int .i64 0)) (y := .tmp 6) rfl rfl rfl H1.out
    try simp only [Act.put,sA,sB,sC]
    refine tA 3 (some 8) rfl (Fr.refl _ _) ?_
    refine tA 4 (some 9) rfl (Fr.refl _ _) ?_
    refine tL 5 (some 10) (v := ?vno35) rfl ?yno35 (Fr.refl _ _) ?rno35
    case yno35 =>
     intro wq hSw
     (try dsimp only at hSw)
     have hq := hSw.cell_some C2.out (fun h => h)
     go_simp <;> with_reducible rfl
    try simp only [Act.put,sA,sB,sC]
    refine tL 6 (some 11) (v := (.bool true)) rfl ?yno36 (Fr.refl _ _) ?rno36
    case yno36 =>
     intro wq hSw
     exact step_le15 (x := .tmp 10) (y := .const (.int .i64 400)) rfl rfl rfl H2.out
    try simp only [Act.put,sA,sB,sC]
    refine tA 7 (some 12) rfl (Fr.refl _ _) ?_
    refine tA 8 (some 13) rfl (Fr.refl _ _) ?_
    refine tA 9 (some 14) rfl (Fr.refl _ _) ?_
    refine tL 10 (some 15) (v := ?vno310) rfl ?yno310 (Fr.refl _ _) ?rno310
    case yno310 =>
     intro wq hSw
     (try dsimp only at hSw)
     have hq := hSw.cell_some C0.out (fun h => h)
     go_simp <;> with_reducible rfl
    try simp only [Act.put,sA,sB,sC]
    refine tA 11 (some 16) rfl (Fr.refl _ _) ?_
    refine tA 12 (some 17) rfl (Fr.refl _ _) ?_
    refine tA 13 (some 18) rfl (Fr.refl _ _) ?_
    refine tL 14 (some 19) (v := ?vno314) rfl ?yno314 (Fr.refl _ _) ?rno314
    case yno314 =>
     intro wq hSw
     (try dsimp only at hSw)
     have hq := hSw.cell_some C2.out (fun h => h)
     go_simp <;> with_reducible rfl
    try simp only [Act.put,sA,sB,sC]
    refine rW 15 (some 20) rfl fun K hK => ?_
    go_simp
    refine (HC.out w1.drew HB.out.drew).mono ?_; rintro e v9 ⟨rfl, hw⟩
    obtain rfl : w1.drew = v9 := hw.symm
    have hfr : Fr (fun _ => False) w1.drew w1.drew := Fr.refl _ _
    go_wp2_with fail
    refine hK.out _ _ hfr (fun hHeld => ?_)
    clear hK K hHeld
    try simp only [Act.put,sA,sB,sC]
    refine wpAnyH_re (S' := fun w' => Fr (fun _ => False) w1.drew w') (fun w' h => hfr.trans h) ?_
    clear hfr
    refine tL 16 (some 21) (v := (.bool false)) rfl ?yno316 (Fr.refl _ _) ?rno316
    case yno316 =>
     intro wq hSw
     exact step_eq15 (x := .tmp 16) (y := .tmp 20) rfl rfl rfl H3.out
    try simp only [Act.put,sA,sB,sC]
    refine tA 17 (some 22) rfl (Fr.refl _ _) ?_
    refine tA 18 (some 23) rfl (Fr.refl _ _) ?_
    refine tU 19 (some 24) rfl (Fr.refl _ _) ?_
    refine tU 20 (some 25) rfl (Fr.refl _ _) ?_
    refine tU 21 (some 26) rfl (Fr.refl _ _) ?_
    refine tU 22 (some 27) rfl (Fr.refl _ _) ?_
    refine tA 23 (some 28) rfl (Fr.refl _ _) ?_
    refine tA 24 (some 4) rfl (Fr.refl _ _) ?_
    refine tD ?_
    go_wp2_with fail
    go_ret
    exact ⟨rfl, HB.out.drew⟩
  ·have H1 := qH (decide_eq_true c1)
   have H2 := qH (decide_eq_false c2)
   rw [decide_eq_true c1, decide_eq_false c2]
   clear c1 c2
   go_enter Tryz.func14, Tryz.ntmps14
   go_wp2_with fail
   obtain ⟨w1, hw1⟩ : ∃ x, x = w.alloc (.cells #[.slice A n c, .int .u64 g, .int .i64 z] 25) := ⟨_, rfl⟩
   rw [← hw1] at C0 C2 HB ⊢
   clear hw1
   refine wp_region_held_drew (S := fun w' => Fr (fun _ => False) w1.drew w') (by kernel_rfl) (Fr.refl _ _) (fun hHeld => ?_)
   clear hHeld
   refine tA 0 (some 5) rfl (Fr.refl _ _) ?_
   refine tL 1 (some 6) (v := ?vno21) rfl ?yno21 (Fr.refl _ _) ?rno21
   case yno21 =>
    intro wq hSw
    (try dsimp only at hSw)
    have hq := hSw.cell_some C2.out (fun h => h)
    go_simp <;> with_reducible rfl
   try simp only [Act.put,sA,sB,sC]
   refine tL 2 (some 7) (v := (.bool true)) rfl ?yno22 (Fr.refl _ _) ?rno22
   case yno22 =>
    intro wq hSw
    exact step_le15 (x := .const (.int .i64 0)) (y := .tmp 6) rfl rfl rfl H1.out
   try simp only [Act.put,sA,sB,sC]
   refine tA 3 (some 8) rfl (Fr.refl _ _) ?_
   refine tA 4 (some 9) rfl (Fr.refl _ _) ?_
   refine tL 5 (some 10) (v := ?vno25) rfl ?yno25 (Fr.refl _ _) ?rno25
   case yno25 =>
    intro wq hSw
    (try dsimp only at hSw)
    have hq := hSw.cell_some C2.out (fun h => h)
    go_simp <;> with_reducible rfl
   try simp only [Act.put,sA,sB,sC]
   refine tL 6 (some 11) (v := (.bool false)) rfl ?yno26 (Fr.refl _ _) ?rno26
   case yno26 =>
    intro wq hSw
    exact step_le15 (x := .tmp 10) (y := .const (.int .i64 400)) rfl rfl rfl H2.out
   try simp only [Act.put,sA,sB,sC]
   refine tA 7 (some 12) rfl (Fr.refl _ _) ?_
   refine tA 8 (some 13) rfl (Fr.refl _ _) ?_
   refine tU 9 (some 14) rfl (Fr.refl _ _) ?_
   refine tU 10 (some 15) rfl (Fr.refl _ _) ?_
   refine tU 11 (some 16) rfl (Fr.refl _ _) ?_
   refine tU 12 (some 17) rfl (Fr.refl _ _) ?_
   refine tU 13 (some 18) rfl (Fr.refl _ _) ?_
   refine tU 14 (some 19) rfl (Fr.refl _ _) ?_
   refine tU 15 (some 20) rfl (Fr.refl _ _) ?_
   refine tU 16 (some 21) rfl (Fr.refl _ _) ?_
   refine tA 17 (some 22) rfl (Fr.refl _ _) ?_
   refine tA 18 (some 23) rfl (Fr.refl _ _) ?_
   refine tU 19 (some 24) rfl (Fr.refl _ _) ?_
   refine tU 20 (some 25) rfl (Fr.refl _ _) ?_
   refine tU 21 (some 26) rfl (Fr.refl _ _) ?_
   refine tU 22 (some 27) rfl (Fr.refl _ _) ?_
   refine tA 23 (some 28) rfl (Fr.refl _ _) ?_
   refine tA 24 (some 4) rfl (Fr.refl _ _) ?_
   refine tD ?_
   go_wp2_with fail
   go_ret
   exact ⟨rfl, HB.out.drew⟩
 ·have H1 := qH (decide_eq_false c1)
  rw [decide_eq_false c1]
  clear c1
  go_enter Tryz.func14, Tryz.ntmps14
  go_wp2_with fail
  obtain ⟨w1, hw1⟩ : ∃ x, x = w.alloc (.cells #[.slice A n c, .int .u64 g, .int .i64 z] 25) := ⟨_, rfl⟩
  rw [← hw1] at C0 C2 HB ⊢
  clear hw1
  refine wp_region_held_drew (S := fun w' => Fr (fun _ => False) w1.drew w') (by kernel_rfl) (Fr.refl _ _) (fun hHeld => ?_)
  clear hHeld
  refine tA 0 (some 5) rfl (Fr.refl _ _) ?_
  refine tL 1 (some 6) (v := ?vno11) rfl ?yno11 (Fr.refl _ _) ?rno11
  case yno11 =>
   intro wq hSw
   (try dsimp only at hSw)
   have hq := hSw.cell_some C2.out (fun h => h)
   go_simp <;> with_reducible rfl
  try simp only [Act.put,sA,sB,sC]
  refine tL 2 (some 7) (v := (.bool false)) rfl ?yno12 (Fr.refl _ _) ?rno12
  case yno12 =>
   intro wq hSw
   exact step_le15 (x := .const (.int .i64 0)) (y := .tmp 6) rfl rfl rfl H1.out
  try simp only [Act.put,sA,sB,sC]
  refine tA 3 (some 8) rfl (Fr.refl _ _) ?_
  refine tU 4 (some 9) rfl (Fr.refl _ _) ?_
  refine tU 5 (some 10) rfl (Fr.refl _ _) ?_
  refine tU 6 (some 11) rfl (Fr.refl _ _) ?_
  refine tA 7 (some 12) rfl (Fr.refl _ _) ?_
  refine tA 8 (some 13) rfl (Fr.refl _ _) ?_
  refine tU 9 (some 14) rfl (Fr.refl _ _) ?_
  refine tU 10 (some 15) rfl (Fr.refl _ _) ?_
  refine tU 11 (some 16) rfl (Fr.refl _ _) ?_
  refine tU 12 (some 17) rfl (Fr.refl _ _) ?_
  refine tU 13 (some 18) rfl (Fr.refl _ _) ?_
  refine tU 14 (some 19) rfl (Fr.refl _ _) ?_
  refine tU 15 (some 20) rfl (Fr.refl _ _) ?_
  refine tU 16 (some 21) rfl (Fr.refl _ _) ?_
  refine tA 17 (some 22) rfl (Fr.refl _ _) ?_
  refine tA 18 (some 23) rfl (Fr.refl _ _) ?_
  refine tU 19 (some 24) rfl (Fr.refl _ _) ?_
  refine tU 20 (some 25) rfl (Fr.refl _ _) ?_
  refine tU 21 (some 26) rfl (Fr.refl _ _) ?_
  refine tU 22 (some 27) rfl (Fr.refl _ _) ?_
  refine tA 23 (some 28) rfl (Fr.refl _ _) ?_
  refine tA 24 (some 4) rfl (Fr.refl _ _) ?_
  refine tD ?_
  go_wp2_with fail
  go_ret
  exact ⟨rfl, HB.out.drew⟩
end Go.Proofs.YthmneinejfbheaaGreatDoor

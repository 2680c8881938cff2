/-
  Contracts of layer 15's document's Refs and Right. Conditions: bounds. (Written by gen_ehc.py, gen_ehd.py.)
-/
import Derived.Test.YthmneinejfbheaaGreatDoorEhd
set_option linter.unusedVariables false
set_option maxRecDepth 20000
set_option maxHeartbeats 1600000
namespace Go.Proofs.YthmneinejfbheaaGreatDoor
open Go.RowKit Go.Proofs
def RetRnRefs (zs : List Int) (g : Int) (n : Nat) (w : World) (e : Ending) (w' : World) : Prop := ∃ A c, e = .returned (.slice A n c) ∧ Rn w' A 35 3 n c ((refsL zs g).flatMap r3c) ∧ Below w.heap.size w w'
theorem rrefs15 (A : Option Addr) (n c : Nat) (zs : List Int) (g z : Int) (w : World) (h : Sl w 1 A n c (icells zs)) (hl : zs.length = n) (hn : n ≤ 600) :
  Calls Tryz.prog 11 #[.agg #[.slice A n c, .int .u64 g, .int .i64 z]] w (RetRnRefs zs g n w) := by
 have hb0 : Below w.heap.size w (w.alloc (.cells #[.slice A n c, .int .u64 g, .int .i64 z] 25)) := (Below.refl _ _).alloc (Nat.le_refl _) _
 have hx0 := Bl3.new (w := w) (A := A) (n := n) (c := c) (g := g) (z := z)
 have HX := qH hx0
 have HB := qH hb0
 have HS := qH (h.below hb0 (Nat.le_refl _))
 have HL := qH hl
 have HZ := qH (show (w.alloc (.cells #[.slice A n c, .int .u64 g, .int .i64 z] 25)).heap.size = w.heap.size + 1 by simp)
 obtain ⟨i0, hi0, hz0, hz1, hz2⟩ := info_parts info_ref15
 have Hi0 := qH hi0
 have Hz0 := qH hz0
 have Hz1 := qH hz1
 have Hz2 := qH hz2
 clear h hb0 hx0 hl hi0 hz0 hz1 hz2
 go_enter Tryz.func11, Tryz.ntmps11
 go_wp2_with fail
 obtain ⟨w1, hw1⟩ : ∃ x, x = w.alloc (.cells #[.slice A n c, .int .u64 g, .int .i64 z] 25) := ⟨_, rfl⟩
 rw [← hw1] at HX HB HS HZ ⊢
 clear hw1
 go_loopw [3, 4] (fun l kv wr => ∃ (k : Nat) (A' : Option Addr) (c' : Nat), k ≤ n ∧ l = .slice A' k c' ∧ kv = .int .i64 (k : Int) ∧ Rn wr A' 35 3 k c' (((refsL zs g).take k).flatMap r3c) ∧ (∀ b, Bk A' b → w1.heap.size ≤ b) ∧ Below w1.heap.size w1 wr) (fun l kv _ => n - (intOf kv).toNat)
 case atStart => exact ⟨0, none, 0, by omega, rfl, rfl, .inl ⟨rfl, rfl, rfl, rfl⟩, (fun b hb => by obtain ⟨o, hb⟩ := hb; cases hb), Below.refl _ _⟩
 case round =>
  obtain ⟨k, A', c', hk, rfl, rfl, hr, ho, hb⟩ := hrel
  have c0 := (HX.out.later hb).c0
  have C0 := qH c0
  have C1 := qH (HX.out.later hb).c1
  by_cases hlt : k < n
  ·have hki : (k : Int) < (n : Int) := by omega
   have hkz : k < zs.length := by rw [HL.out]; exact hlt
   obtain ⟨b1, o1, rfl, hc⟩ := (HS.out.below hb (Nat.le_refl _)).at_ hlt
   have hcell := hc k _ (icells_get zs k hkz)
   have hgd : zs.getD k 0 = zs[k] := by simp [hkz]
   rw [← hgd] at hcell
   obtain ⟨y, hy⟩ : ∃ y, y = zs.getD k 0 := ⟨_, rfl⟩
   rw [← hy] at hcell
   have HY := qH hy
   have HC := qH hcell
   have RR := qH hr
   have OO := qH ho
   have BB := qH hb
   have NB := qH (show ¬ Bk A' w.heap.size from fun q => by have := OO.out _ q; have := HZ.out; omega)
   have NC := qH (show ¬ Bk A' b1 from fun q => by have := OO.out _ q; have := HS.out.lt (by decide) (by omega) rfl; omega)
   have hk0 : (0 : Int) ≤ (k : Int) := by omega
   have hwk : IntKind.u64.wrap (k : Int) = (k : Int) := by rw [IntKind.wrap_u64]; omega
   clear hc hgd hy hcell hr ho hb
   go_wp2_with fail
   refine wp_region_held_drew (S := fun w' => Fr (fun b => Bk A' b) wr.drew w') (by kernel_rfl) (Fr.refl _ _) (fun hHeld => ?_)
   clear hHeld
   refine tA 0 (some 12) rfl (Fr.refl _ _) ?_
   refine tA 1 (some 13) rfl (Fr.refl _ _) ?_
   refine tL 2 (some 14) (v := ?vh2) rfl ?yh2 (Fr.refl _ _) ?rh2
   case yh2 =>
    intro wq hSw
    (try dsimp only at hSw)
    have hq := hSw.cell_some C0.out NB.out
    go_simp <;> with_reducible rfl
   try simp only [Act.put,sA,sB,sC]
   refine tA 3 (some 15) rfl (Fr.refl _ _) ?_
   refine tA 4 (some 16) rfl (Fr.refl _ _) ?_
   refine tL 5 (some 17) (v := ?vh5) rfl ?yh5 (Fr.refl _ _) ?rh5
   case yh5 =>
    intro wq hSw
    (try dsimp only at hSw)
    have hq := hSw.cell_some HC.out NC.out
    go_simp <;> with_reducible rfl
   try simp only [Act.put,sA,sB,sC]
   refine tA 6 (some 18) rfl (Fr.refl _ _) ?_
   refine tL 7 (some 19) (v := ?vh7) rfl ?yh7 (Fr.refl _ _) ?rh7
   case yh7 =>
    intro wq hSw
    (try dsimp only at hSw)
    have hq := hSw.cell_some C1.out NB.out
    go_simp <;> with_reducible rfl
   try simp only [Act.put,sA,sB,sC]
   refine tA 8 (some 20) rfl (Fr.refl _ _) ?_
   refine tA 9 (some 21) rfl (Fr.refl _ _) ?_
   refine tL 10 (some 22) (v := (.int .u64 (IntKind.u64.wrap (g + (k : Int))))) rfl ?yh10 (Fr.refl _ _) ?rh10
   case yh10 =>
    intro wq hSw
    exact step_addu15 (x := .tmp 19) (y := .tmp 21) rfl rfl rfl
   try simp only [Act.put,sA,sB,sC]
   refine tL 11 (some 23) (v := (.agg (r3c (3, y, IntKind.u64.wrap (g + (k : Int)))).toArray)) rfl ?yh11 (Fr.refl _ _) ?rh11
   case yh11 =>
    intro wq hSw
    exact step_refb15 (a := .const (.int .u8 3)) (b := .tmp 17) (c := .tmp 22) rfl rfl rfl rfl
   try simp only [Act.put,sA,sB,sC]
   refine rW 12 (some 24) rfl fun K hK => ?_
   refine wp_buildSlice (o := ⟨some 24, _, _, _, _, _⟩) 32 35 1 #[(0, .tmp 23)] rfl (r3c (3, y, IntKind.u64.wrap (g + (k : Int)))).toArray i0 (.agg (r3c (0, 0, 0)).toArray) Tryz.underlying32 Hi0.out Hz0.out (by rw [Hz1.out]; decide) (by rw [Hz1.out]; decide) (by rw [Hz1.out]; exact fill3a _ _ rfl) ?_
   have hsl := Sl.made wr.drew (r3c (3, y, IntKind.u64.wrap (g + (k : Int)))).toArray 35 3 1 rfl (by decide)
   have hb : Below wr.drew.heap.size wr.drew (wr.drew.alloc (.cells (r3c (3, y, IntKind.u64.wrap (g + (k : Int)))).toArray 35)) := (Below.refl _ _).alloc (Nat.le_refl _) _
   obtain ⟨v7, hw⟩ : ∃ v, v = wr.drew.alloc (.cells (r3c (3, y, IntKind.u64.wrap (g + (k : Int)))).toArray 35) := ⟨_, rfl⟩
   rw [← hw] at hb hsl ⊢
   clear hw
   have hfr : Fr (fun b => Bk A' b) wr.drew v7 := Fr.of_below hb
   have SL := qH hsl
   have R7 := qH (RR.out.later ((Below.drew (Below.refl _ _)).trans hb))
   have B7 := qH (BB.out.trans (((Below.drew (Below.refl _ _)).trans hb).mono BB.out.size))
   clear hsl hb
   refine hK.out _ _ hfr (fun hHeld => ?_)
   clear hK K hHeld
   try simp only [Act.put,sA,sB,sC]
   refine wpAnyH_re (S' := fun w' => Fr (fun b => Bk A' b) v7 w') (fun w' h => hfr.trans h) ?_
   clear hfr
   refine rW 13 (some 25) rfl fun K hK => ?_
   refine wp_append_rn (o := ⟨some 25, _, _, _, _, _⟩) (.tmp 12) (.tmp 24) 32 32 rfl i0 (.agg (r3c (0, 0, 0)).toArray) 24 Tryz.underlying32 Hi0.out Hz0.out Hz1.out Hz2.out rfl (by decide) rfl R7.out (.slice (some ⟨wr.drew.heap.size, 0, none⟩) 1 1) 1 (r3c (3, y, IntKind.u64.wrap (g + (k : Int)))) rfl (SL.out.src Tryz.underlying32 (by decide) (r3c_one _)) (by unfold maxLen; omega) (by omega) ?_
   intro A7 c7 w8 hrn hfb hor
   have hfr : Fr (fun b => Bk A' b) v7 w8 := hfb
   have HRN := qH hrn
   have HOR := qH hor
   have B8 := qH (B7.out.trans (hfb.below B7.out.size (fun b hb => OO.out b hb)))
   clear hrn hfb hor
   refine hK.out _ _ hfr (fun hHeld => ?_)
   clear hK K hHeld
   try simp only [Act.put,sA,sB,sC]
   refine wpAnyH_re (S' := fun w' => Fr (fun b => Bk A' b) w8 w') (fun w' h => hfr.trans h) ?_
   clear hfr
   refine tA 14 (some 3) rfl (Fr.refl _ _) ?_
   refine tD ?_
   go_wp2_with fail
   go_roundw
   case rel =>
    refine ⟨k + 1, A7, c7, by omega, rfl, by go_num, ?_, fun b hb => ?_, B8.out⟩
    ·have := HRN.out
     rw [HY.out] at this
     rw [List.take_add_one, refsL_at hkz]
     simpa using this
    ·rcases HOR.out with h | h
     ·exact OO.out b (h ▸ hb)
     ·rw [h] at hb
      obtain ⟨o, hb⟩ := hb
      injection hb with hb
      injection hb with hb _
      have := B7.out.size
      omega
   case measure => simp [intOf]; omega
  ·obtain rfl : k = n := by omega
   have RR := qH hr
   have BB := qH hb
   clear hr ho hb
   go_wp2_with fail
   go_ret
   refine ⟨A', c', rfl, ?_, HB.out.trans (BB.out.mono (by have := HZ.out; omega))⟩
   have := RR.out
   rwa [List.take_of_length_le (by rw [refsL_len, HL.out]; exact Nat.le_refl _)] at this
theorem rright15 (k : Nat) (hk1 : 1 ≤ k) (hk2 : k ≤ 255) (A : Option Addr) (n c : Nat) (zs : List Int) (g z : Int) (w : World) (h : Sl w 1 A n c (icells zs)) (hl : zs.length = n) (h1 : -9223372036854775808 ≤ z) (h2 : z < 9223372036854775808) :
  Calls Tryz.prog 15 #[.int .i64 (k : Int), .agg #[.slice A n c, .int .u64 g, .int .i64 z]] w fun e w' => e = .returned (.bool (rightZ (44 * k) zs z)) ∧ Below w.heap.size w w' := by
 have hb0 : Below w.heap.size w (w.alloc (.cells #[.slice A n c, .int .u64 g, .int .i64 z] 25)) := (Below.refl _ _).alloc (Nat.le_refl _) _
 have hx0 := Bl3.new (w := w) (A := A) (n := n) (c := c) (g := g) (z := z)
 have hct := fun W => rcount15 k hk1 hk2 z h1 h2 W
 have HS := qH (h.below hb0 (Nat.le_refl _))
 have C0 := qH hx0.c0
 have C2 := qH hx0.c2
 have HB := qH hb0
 have HC := qH hct
 have HL := qH hl
 have hn := h.lim
 unfold maxLen at hn
 clear h hb0 hx0 hct h1 h2
 unfold rightZ
 rw [hl, show countZ (44 * k) z = countN (44 * k) z.toNat by rw [countZ, if_neg (by omega)]]
 obtain ⟨q, hq⟩ : ∃ q, q = countN (44 * k) z.toNat := ⟨_, rfl⟩
 rw [← hq] at HC ⊢
 obtain ⟨y, hy⟩ : ∃ y, y = belowL zs := ⟨_, rfl⟩
 rw [← hy]
 have HY := qH hy
 clear hq hy hl
 by_cases c1 : 0 ≤ z
 ·by_cases c2 : z ≤ 400
  ·by_cases c3 : (n : Int) = (q : Int)
   ·have H1 := qH (show decide (z < 0) = false from decide_eq_false (by omega))
    have H2 := qH (show decide (400 < z) = false from decide_eq_false (by omega))
    have H3 := qH (show decide ((n : Int) = (q : Int)) = !false from decide_eq_true c3)
    rw [decide_eq_true c1, decide_eq_true c2, decide_eq_true c3]
    clear c1 c2 c3
    go_enter Tryz.func15, Tryz.ntmps15
    go_wp2_with fail
    obtain ⟨w1, hw1⟩ : ∃ x, x = w.alloc (.cells #[.slice A n c, .int .u64 g, .int .i64 z] 25) := ⟨_, rfl⟩
    rw [← hw1] at C0 C2 HB HS ⊢
    clear hw1
    refine wp_region_held_drew (S := fun w' => Fr (fun _ => False) w1.drew w') (by kernel_rfl) (Fr.refl _ _) (fun hHeld => ?_)
    clear hHeld
    refine tA 0 (some 6) rfl (Fr.refl _ _) ?_
    refine tL 1 (some 7) (v := ?vryes1) rfl ?yryes1 (Fr.refl _ _) ?rryes1
    case yryes1 =>
     intro wq hSw
     (try dsimp only at hSw)
     have hq := hSw.cell_some C2.out (fun h => h)
     go_simp <;> with_reducible rfl
    try simp only [Act.put,sA,sB,sC]
    refine tL 2 (some 8) (v := (.bool false)) rfl ?yryes2 (Fr.refl _ _) ?rryes2
    case yryes2 =>
     intro wq hSw
     exact step_lt15 (x := .tmp 7) (y := .const (.int .i64 0)) rfl rfl rfl H1.out
    try simp only [Act.put,sA,sB,sC]
    refine tA 3 (some 9) rfl (Fr.refl _ _) ?_
    refine tA 4 (some 10) rfl (Fr.refl _ _) ?_
    refine tL 5 (some 11) (v := ?vryes5) rfl ?yryes5 (Fr.refl _ _) ?rryes5
    case yryes5 =>
     intro wq hSw
     (try dsimp only at hSw)
     have hq := hSw.cell_some C2.out (fun h => h)
     go_simp <;> with_reducible rfl
    try simp only [Act.put,sA,sB,sC]
    refine tL 6 (some 12) (v := (.bool false)) rfl ?yryes6 (Fr.refl _ _) ?rryes6
    case yryes6 =>
     intro wq hSw
     exact step_gt15 (x := .tmp 11) (y := .const (.int .i64 400)) rfl rfl rfl H2.out
    try simp only [Act.put,sA,sB,sC]
    refine tA 7 (some 13) rfl (Fr.refl _ _) ?_
    refine tA 8 (some 14) rfl (Fr.refl _ _) ?_
    refine tA 9 (some 15) rfl (Fr.refl _ _) ?_
    refine tL 10 (some 16) (v := ?vryes10) rfl ?yryes10 (Fr.refl _ _) ?rryes10
    case yryes10 =>
     intro wq hSw
     (try dsimp only at hSw)
     have hq := hSw.cell_some C0.out (fun h => h)
     go_simp <;> with_reducible rfl
    try simp only [Act.put,sA,sB,sC]
    refine tA 11 (some 17) rfl (Fr.refl _ _) ?_
    refine tA 12 (some 18) rfl (Fr.refl _ _) ?_
    refine tA 13 (some 19) rfl (Fr.refl _ _) ?_
    refine tL 14 (some 20) (v := ?vryes14) rfl ?yryes14 (Fr.refl _ _) ?rryes14
    case yryes14 =>
     intro wq hSw
     (try dsimp only at hSw)
     have hq := hSw.cell_some C2.out (fun h => h)
     go_simp <;> with_reducible rfl
    try simp only [Act.put,sA,sB,sC]
    refine rW 15 (some 21) rfl fun K hK => ?_
    go_simp
    refine (HC.out w1.drew).mono ?_; rintro e v9 ⟨rfl, hw⟩
    obtain rfl : w1.drew = v9 := hw.symm
    have hfr : Fr (fun _ => False) w1.drew w1.drew := Fr.refl _ _
    go_wp2_with fail
    refine hK.out _ _ hfr (fun hHeld => ?_)
    clear hK K hHeld
    try simp only [Act.put,sA,sB,sC]
    refine wpAnyH_re (S' := fun w' => Fr (fun _ => False) w1.drew w') (fun w' h => hfr.trans h) ?_
    clear hfr
    refine tL 16 (some 22) (v := (.bool false)) rfl ?yryes16 (Fr.refl _ _) ?rryes16
    case yryes16 =>
     intro wq hSw
     exact step_ne15 (x := .tmp 17) (y := .tmp 21) rfl rfl rfl H3.out
    try simp only [Act.put,sA,sB,sC]
    refine tA 17 (some 23) rfl (Fr.refl _ _) ?_
    refine tD ?_
    go_wp2_with fail
    have hsd := HS.out.drew
    have c0 : w1.drew.cell? ⟨w.heap.size, 0, none⟩ = some (.slice A n c) := C0.out
    obtain ⟨w2, hw2⟩ : ∃ x, x = w1.drew := ⟨_, rfl⟩
    have HB2 := qH (show Below w.heap.size w w2 from hw2 ▸ HB.out.drew)
    rw [← hw2] at hsd c0 ⊢
    have HS2 := qH hsd
    clear hw2 hsd
    go_loopw [5] (fun i wr => ∃ k : Nat, k ≤ n ∧ i = .int .i64 (k : Int) ∧ wr = w2 ∧ ∀ j (hj : j < zs.length), j < k → ¬ zs[j] < 0) (fun i _ => n - (intOf i).toNat)
    case atStart => exact ⟨0, by omega, rfl, rfl, fun j _ hj => absurd hj (by omega)⟩
    case round =>
     obtain ⟨k, hk, rfl, hwr, hz⟩ := hrel
     obtain rfl : w2 = wr := hwr.symm
     have Hz := qH hz; clear hz
     by_cases hlt : k < n
     ·have hkl : k < zs.length := by rw [HL.out]; exact hlt
      have hki : (k : Int) < (n : Int) := by omega
      obtain ⟨b1, o1, rfl, hc⟩ := HS2.out.at_ hlt
      have hcell := hc k _ (icells_get zs k hkl)
      clear hc
      obtain ⟨x, hxx⟩ : ∃ x, x = zs[k] := ⟨_, rfl⟩
      rw [← hxx] at hcell
      have Hxx := qH hxx; clear hxx
      by_cases hx : x < 0
      ·have Hx := qH hx
       go_wp2_with fail
       go_ret
       refine ⟨?_, HB2.out⟩
       have e : y = true := by
        rw [HY.out, belowL, List.any_eq_true]
        exact ⟨zs[k], List.getElem_mem hkl, by rw [← Hxx.out]; exact decide_eq_true (by have := Hx.out; omega)⟩
       rw [e]
       rfl
      ·have Hx := qH hx
       go_wp2_with fail
       go_roundw
       case rel => exact ⟨k + 1, by omega, by go_num, trivial, fun j hj hjk => by
        by_cases he : j = k
        ·subst he; rw [← Hxx.out]; have := Hx.out; omega
        ·have := Hz.out j hj (by omega); omega⟩
       case measure => simp [intOf]; omega
     ·obtain rfl : k = n := by omega
      go_wp2_with fail
      go_ret
      refine ⟨?_, HB2.out⟩
      have e : y = false := by
       rw [HY.out, belowL, List.any_eq_false]
       intro z hz
       obtain ⟨j, hj, rfl⟩ := List.mem_iff_getElem.1 hz
       rw [decide_eq_false (by have := Hz.out j hj (by rw [← HL.out]; exact hj); omega)]
       decide
      rw [e]
      rfl
   ·have H1 := qH (show decide (z < 0) = false from decide_eq_false (by omega))
    have H2 := qH (show decide (400 < z) = false from decide_eq_false (by omega))
    have H3 := qH (show decide ((n : Int) = (q : Int)) = !true from decide_eq_false c3)
    rw [decide_eq_true c1, decide_eq_true c2, decide_eq_false c3]
    clear c1 c2 c3
    go_enter Tryz.func15, Tryz.ntmps15
    go_wp2_with fail
    obtain ⟨w1, hw1⟩ : ∃ x, x = w.alloc (.cells #[.slice A n c, .int .u64 g, .int .i64 z] 25) := ⟨_, rfl⟩
    rw [← hw1] at C0 C2 HB ⊢
    clear hw1 HS
    refine wp_region_held_drew (S := fun w' => Fr (fun _ => False) w1.drew w') (by kernel_rfl) (Fr.refl _ _) (fun hHeld => ?_)
    clear hHeld
    refine tA 0 (some 6) rfl (Fr.refl _ _) ?_
    refine tL 1 (some 7) (v := ?vrno31) rfl ?yrno31 (Fr.refl _ _) ?rrno31
    case yrno31 =>
     intro wq hSw
     (try dsimp only at hSw)
     have hq := hSw.cell_some C2.out (fun h => h)
     go_simp <;> with_reducible rfl
    try simp only [Act.put,sA,sB,sC]
    refine tL 2 (some 8) (v := (.bool false)) rfl ?yrno32 (Fr.refl _ _) ?rrno32
    case yrno32 =>
     intro wq hSw
     exact step_lt15 (x := .tmp 7) (y := .const (.int .i64 0)) rfl rfl rfl H1.out
    try simp only [Act.put,sA,sB,sC]
    refine tA 3 (some 9) rfl (Fr.refl _ _) ?_
    refine tA 4 (some 10) rfl (Fr.refl _ _) ?_
    refine tL 5 (some 11) (v := ?vrno35) rfl ?yrno35 (Fr.refl _ _) ?rrno35
    case yrno35 =>
     intro wq hSw
     (try dsimp only at hSw)
     have hq := hSw.cell_some C2.out (fun h => h)
     go_simp <;> with_reducible rfl
    try simp only [Act.put,sA,sB,sC]
    refine tL 6 (some 12) (v := (.bool false)) rfl ?yrno36 (Fr.refl _ _) ?rrno36
    case yrno36 =>
     intro wq hSw
     exact step_gt15 (x := .tmp 11) (y := .const (.int .i64 400)) rfl rfl rfl H2.out
    try simp only [Act.put,sA,sB,sC]
    refine tA 7 (some 13) rfl (Fr.refl _ _) ?_
    refine tA 8 (some 14) rfl (Fr.refl _ _) ?_
    refine tA 9 (some 15) rfl (Fr.refl _ _) ?_
    refine tL 10 (some 16) (v := ?vrno310) rfl ?yrno310 (Fr.refl _ _) ?rrno310
    case yrno310 =>
     intro wq hSw
     (try dsimp only at hSw)
     have hq := hSw.cell_some C0.out (fun h => h)
     go_simp <;> with_reducible rfl
    try simp only [Act.put,sA,sB,sC]
    refine tA 11 (some 17) rfl (Fr.refl _ _) ?_
    refine tA 12 (some 18) rfl (Fr.refl _ _) ?_
    refine tA 13 (some 19) rfl (Fr.refl _ _) ?_
    refine tL 14 (some 20) (v := ?vrno314) rfl ?yrno314 (Fr.refl _ _) ?rrno314
    case yrno314 =>
     intro wq hSw
     (try dsimp only at hSw)
     have hq := hSw.cell_some C2.out (fun h => h)
     go_simp <;> with_reducible rfl
    try simp only [Act.put,sA,sB,sC]
    refine rW 15 (some 21) rfl fun K hK => ?_
    go_simp
    refine (HC.out w1.drew).mono ?_; rintro e v9 ⟨rfl, hw⟩
    obtain rfl : w1.drew = v9 := hw.symm
    have hfr : Fr (fun _ => False) w1.drew w1.drew := Fr.refl _ _
    go_wp2_with fail
    refine hK.out _ _ hfr (fun hHeld => ?_)
    clear hK K hHeld
    try simp only [Act.put,sA,sB,sC]
    refine wpAnyH_re (S' := fun w' => Fr (fun _ => False) w1.drew w') (fun w' h => hfr.trans h) ?_
    clear hfr
    refine tL 16 (some 22) (v := (.bool true)) rfl ?yrno316 (Fr.refl _ _) ?rrno316
    case yrno316 =>
     intro wq hSw
     exact step_ne15 (x := .tmp 17) (y := .tmp 21) rfl rfl rfl H3.out
    try simp only [Act.put,sA,sB,sC]
    refine tA 17 (some 23) rfl (Fr.refl _ _) ?_
    refine tD ?_
    go_wp2_with fail
    go_ret
    exact ⟨rfl, HB.out.drew⟩
  ·have H1 := qH (show decide (z < 0) = false from decide_eq_false (by omega))
   have H2 := qH (show decide (400 < z) = true from decide_eq_true (by omega))
   rw [decide_eq_true c1, decide_eq_false c2]
   clear c1 c2
   go_enter Tryz.func15, Tryz.ntmps15
   go_wp2_with fail
   obtain ⟨w1, hw1⟩ : ∃ x, x = w.alloc (.cells #[.slice A n c, .int .u64 g, .int .i64 z] 25) := ⟨_, rfl⟩
   rw [← hw1] at C0 C2 HB ⊢
   clear hw1 HS
   refine wp_region_held_drew (S := fun w' => Fr (fun _ => False) w1.drew w') (by kernel_rfl) (Fr.refl _ _) (fun hHeld => ?_)
   clear hHeld
   refine tA 0 (some 6) rfl (Fr.refl _ _) ?_
   refine tL 1 (some 7) (v := ?vrno21) rfl ?yrno21 (Fr.refl _ _) ?rrno21
   case yrno21 =>
    intro wq hSw
    (try dsimp only at hSw)
    have hq := hSw.cell_some C2.out (fun h => h)
    go_simp <;> with_reducible rfl
   try simp only [Act.put,sA,sB,sC]
   refine tL 2 (some 8) (v := (.bool false)) rfl ?yrno22 (Fr.refl _ _) ?rrno22
   case yrno22 =>
    intro wq hSw
    exact step_lt15 (x := .tmp 7) (y := .const (.int .i64 0)) rfl rfl rfl H1.out
   try simp only [Act.put,sA,sB,sC]
   refine tA 3 (some 9) rfl (Fr.refl _ _) ?_
   refine tA 4 (some 10) rfl (Fr.refl _ _) ?_
   refine tL 5 (some 11) (v := ?vrno25) rfl ?yrno25 (Fr.refl _ _) ?rrno25
   case yrno25 =>
    intro wq hSw
    (try dsimp only at hSw)
    have hq := hSw.cell_some C2.out (fun h => h)
    go_simp <;> with_reducible rfl
   try simp only [Act.put,sA,sB,sC]
   refine tL 6 (some 12) (v := (.bool true)) rfl ?yrno26 (Fr.refl _ _) ?rrno26
   case yrno26 =>
    intro wq hSw
    exact step_gt15 (x := .tmp 11) (y := .const (.int .i64 400)) rfl rfl rfl H2.out
   try simp only [Act.put,sA,sB,sC]
   refine tA 7 (some 13) rfl (Fr.refl _ _) ?_
   refine tA 8 (some 14) rfl (Fr.refl _ _) ?_
   refine tU 9 (some 15) rfl (Fr.refl _ _) ?_
   refine tU 10 (some 16) rfl (Fr.refl _ _) ?_
   refine tU 11 (some 17) rfl (Fr.refl _ _) ?_
   refine tU 12 (some 18) rfl (Fr.refl _ _) ?_
   refine tU 13 (some 19) rfl (Fr.refl _ _) ?_
   refine tU 14 (some 20) rfl (Fr.refl _ _) ?_
   refine tU 15 (some 21) rfl (Fr.refl _ _) ?_
   refine tU 16 (some 22) rfl (Fr.refl _ _) ?_
   refine tA 17 (some 23) rfl (Fr.refl _ _) ?_
   refine tD ?_
   go_wp2_with fail
   go_ret
   exact ⟨rfl, HB.out.drew⟩
 ·have H1 := qH (show decide (z < 0) = true from decide_eq_true (by omega))
  rw [decide_eq_false c1]
  clear c1
  go_enter Tryz.func15, Tryz.ntmps15
  go_wp2_with fail
  obtain ⟨w1, hw1⟩ : ∃ x, x = w.alloc (.cells #[.slice A n c, .int .u64 g, .int .i64 z] 25) := ⟨_, rfl⟩
  rw [← hw1] at C0 C2 HB ⊢
  clear hw1 HS
  refine wp_region_held_drew (S := fun w' => Fr (fun _ => False) w1.drew w') (by kernel_rfl) (Fr.refl _ _) (fun hHeld => ?_)
  clear hHeld
  refine tA 0 (some 6) rfl (Fr.refl _ _) ?_
  refine tL 1 (some 7) (v := ?vrno11) rfl ?yrno11 (Fr.refl _ _) ?rrno11
  case yrno11 =>
   intro wq hSw
   (try dsimp only at hSw)
   have hq := hSw.cell_some C2.out (fun h => h)
   go_simp <;> with_reducible rfl
  try simp only [Act.put,sA,sB,sC]
  refine tL 2 (some 8) (v := (.bool true)) rfl ?yrno12 (Fr.refl _ _) ?rrno12
  case yrno12 =>
   intro wq hSw
   exact step_lt15 (x := .tmp 7) (y := .const (.int .i64 0)) rfl rfl rfl H1.out
  try simp only [Act.put,sA,sB,sC]
  refine tA 3 (some 9) rfl (Fr.refl _ _) ?_
  refine tU 4 (some 10) rfl (Fr.refl _ _) ?_
  refine tU 5 (some 11) rfl (Fr.refl _ _) ?_
  refine tU 6 (some 12) rfl (Fr.refl _ _) ?_
  refine tA 7 (some 13) rfl (Fr.refl _ _) ?_
  refine tA 8 (some 14) rfl (Fr.refl _ _) ?_
  refine tU 9 (some 15) rfl (Fr.refl _ _) ?_
  refine tU 10 (some 16) rfl (Fr.refl _ _) ?_
  refine tU 11 (some 17) rfl (Fr.refl _ _) ?_
  refine tU 12 (some 18) rfl (Fr.refl _ _) ?_
  refine tU 13 (some 19) rfl (Fr.refl _ _) ?_
  refine tU 14 (some 20) rfl (Fr.refl _ _) ?_
  refine tU 15 (some 21) rfl (Fr.refl _ _) ?_
  refine tU 16 (some 22) rfl (Fr.refl _ _) ?_
  refine tA 17 (some 23) rfl (Fr.refl _ _) ?_
  refine tD ?_
  go_wp2_with fail
  go_ret
  exact ⟨rfl, HB.out.drew⟩
end Go.Proofs.YthmneinejfbheaaGreatDoor

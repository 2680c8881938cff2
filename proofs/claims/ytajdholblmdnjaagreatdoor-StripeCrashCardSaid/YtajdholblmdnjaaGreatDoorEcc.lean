/-
  Layer 13's Small and Made: which geometries the laws speak of, and a new array with a coder beside it. Condition: bounds. (Written by gen_ecc.py.)
-/
import Derived.Test.YtajdholblmdnjaaGreatDoorHc
import Derived.Test.YtajdholblmdnjaaGreatDoorJa
import Derived.Deep.RegionHeld3
set_option linter.unusedVariables false
set_option maxRecDepth 20000
set_option maxHeartbeats 1600000
namespace Go.Proofs.YtajdholblmdnjaaGreatDoor
open Go.RowKit Go.Proofs
def Small13 (k m s : Int) : Prop := 1 ≤ k ∧ 1 ≤ m ∧ k + m ≤ 10 ∧ 1 ≤ s ∧ s ≤ 8
instance (k m s : Int) : Decidable (Small13 k m s) := by unfold Small13; infer_instance
theorem geo_below (w : World) (k m s : Int) : Below w.heap.size w (w.alloc (.cells #[.int .i64 k, .int .i64 m, .int .i64 s] 23)) := (Below.refl _ _).alloc (Nat.le_refl _) _
theorem small13_any (k m s : Int) (bk : -9223372036854775808 ≤ k ∧ k < 9223372036854775808) (bm : -9223372036854775808 ≤ m ∧ m < 9223372036854775808) (bs : -9223372036854775808 ≤ s ∧ s < 9223372036854775808) (w : World) :
  Calls Tryz.prog 7 #[.agg #[.int .i64 k, .int .i64 m, .int .i64 s]] w fun e w' => e = .returned (.bool (decide (Small13 k m s))) ∧ Below w.heap.size w w' := by
 have hm := fun w => rmay_any k m bk bm w
 have Hb := Lib.hid (geo_below w k m s)
 by_cases h1 : 1 ≤ k ∧ 1 ≤ m ∧ k + m ≤ 255
 ·rw [mayB_t h1] at hm
  by_cases h2 : k + m ≤ 10
  ·by_cases h3 : 1 ≤ s
   ·by_cases h4 : s ≤ 8
    all_goals
     first
     | rw [decide_eq_true (show Small13 k m s from ⟨h1.1, h1.2.1, h2, h3, h4⟩)]
     | rw [decide_eq_false (show ¬ Small13 k m s from fun h => h4 h.2.2.2.2)]
     go_enter Tryz.func7, Tryz.ntmps7
     go_wp2_with fail
     refine (hm _).mono ?_; rintro e w1 ⟨rfl, rfl⟩
     go_wp2_with fail
     go_ret
     refine ⟨?_, Hb.out⟩
     first
     | rfl
     | (simp [h4]; done)
   ·rw [decide_eq_false (show ¬ Small13 k m s from fun h => h3 h.2.2.2.1)]
    go_enter Tryz.func7, Tryz.ntmps7
    go_wp2_with fail
    refine (hm _).mono ?_; rintro e w1 ⟨rfl, rfl⟩
    go_wp2_with fail
    go_ret
    exact ⟨rfl, Hb.out⟩
  ·rw [decide_eq_false (show ¬ Small13 k m s from fun h => h2 h.2.2.1)]
   go_enter Tryz.func7, Tryz.ntmps7
   go_wp2_with fail
   refine (hm _).mono ?_; rintro e w1 ⟨rfl, rfl⟩
   go_wp2_with fail
   go_ret
   exact ⟨rfl, Hb.out⟩
 ·rw [mayB_f h1] at hm
  rw [decide_eq_false (show ¬ Small13 k m s from fun h => h1 ⟨h.1, h.2.1, by have := h.2.2.1; omega⟩)]
  go_enter Tryz.func7, Tryz.ntmps7
  go_wp2_with fail
  refine (hm _).mono ?_; rintro e w1 ⟨rfl, rfl⟩
  go_wp2_with fail
  go_ret
  exact ⟨rfl, Hb.out⟩
section
variable {Rep : World → (Nat → Prop) → Nat → Dv → Prop}
def RetMade (Rep : World → (Nat → Prop) → Nat → Dv → Prop) (k m s : Nat) (w : World) (e : Ending) (w' : World) : Prop :=
 ∃ A S C F T, e = .returned (.tuple #[.pointer (some ⟨A, 0, none⟩), .pointer (some ⟨C, 0, none⟩)]) ∧ AP Rep w' S A (List.replicate (k + m) (Dv.new s)) ∧ Cod w' C k m F T ∧ Below w.heap.size w w' ∧
  (∀ b, S b → w.heap.size ≤ b ∧ b < C ∧ b < F ∧ b < T) ∧ w.heap.size ≤ C ∧ w.heap.size ≤ F ∧ w.heap.size ≤ T
theorem made13_any (DK : DrvK Rep) (k m s : Nat) (hk : 1 ≤ k) (hm : 1 ≤ m) (hn : k + m ≤ 255) (hs1 : 1 ≤ s) (hs2 : s ≤ 600) (w : World) :
  Calls Tryz.prog 9 #[.agg #[.int .i64 (k : Int), .int .i64 (m : Int), .int .i64 (s : Int)]] w (RetMade Rep k m s w) := by
 have Hb := Lib.hid (geo_below w (k : Int) (m : Int) (s : Int))
 have hnew := heap_alloc_new w (.cells #[.int .i64 (k : Int), .int .i64 (m : Int), .int .i64 (s : Int)] 23)
 have hsz : (w.alloc (.cells #[.int .i64 (k : Int), .int .i64 (m : Int), .int .i64 (s : Int)] 23)).heap.size = w.heap.size + 1 := by simp
 have Hnew := Lib.hid hnew
 have Hsz := Lib.hid hsz
 clear hnew hsz
 go_enter Tryz.func9, Tryz.ntmps9
 go_wp2_with fail
 obtain ⟨wl, hwl⟩ : ∃ x, x = w.alloc (.cells #[.int .i64 (k : Int), .int .i64 (m : Int), .int .i64 (s : Int)] 23) := ⟨_, rfl⟩
 rw [← hwl] at Hb Hnew Hsz ⊢
 clear hwl
 have Hc0 := Lib.hid (show wl.drew.cell? ⟨w.heap.size, 0, none⟩ = some (.int .i64 (k : Int)) by rw [cell_of_row _ _ _ _ _ _ (show wl.drew.heap[w.heap.size]? = _ from Hnew.out)]; rfl)
 have Hc1 := Lib.hid (show wl.drew.cell? ⟨w.heap.size, 1, none⟩ = some (.int .i64 (m : Int)) by rw [cell_of_row _ _ _ _ _ _ (show wl.drew.heap[w.heap.size]? = _ from Hnew.out)]; rfl)
 have Hc2 := Lib.hid (show wl.drew.cell? ⟨w.heap.size, 2, none⟩ = some (.int .i64 (s : Int)) by rw [cell_of_row _ _ _ _ _ _ (show wl.drew.heap[w.heap.size]? = _ from Hnew.out)]; rfl)
 refine wp_region_held_drew (S := fun w' => Fr (fun b => w.heap.size < b) wl.drew w') (by kernel_rfl) (Fr.refl _ _) (fun hHeld => ?_)
 clear hHeld
 refine tL (i := 0) (d := some 4) (v := ?vg0) rfl ?yg0 (Fr.refl _ _) ?rg0
 case yg0 =>
  intro wq hSw
  (try dsimp only at hSw)
  go_simp <;> with_reducible rfl
 try simp only [Act.put,sA,sB,sC]
 refine tL (i := 1) (d := some 5) (v := ?vg1) rfl ?yg1 (Fr.refl _ _) ?rg1
 case yg1 =>
  intro wq hSw
  (try dsimp only at hSw)
  have hq := hSw.cell_some Hc0.out (by simp)
  go_simp <;> with_reducible rfl
 try simp only [Act.put,sA,sB,sC]
 refine tL (i := 2) (d := some 6) (v := ?vg2) rfl ?yg2 (Fr.refl _ _) ?rg2
 case yg2 =>
  intro wq hSw
  (try dsimp only at hSw)
  go_simp <;> with_reducible rfl
 try simp only [Act.put,sA,sB,sC]
 refine tL (i := 3) (d := some 7) (v := ?vg3) rfl ?yg3 (Fr.refl _ _) ?rg3
 case yg3 =>
  intro wq hSw
  (try dsimp only at hSw)
  have hq := hSw.cell_some Hc1.out (by simp)
  go_simp <;> with_reducible rfl
 try simp only [Act.put,sA,sB,sC]
 refine tL (i := 4) (d := some 8) (v := ?vg4) rfl ?yg4 (Fr.refl _ _) ?rg4
 case yg4 =>
  intro wq hSw
  (try dsimp only at hSw)
  go_simp <;> with_reducible rfl
 try simp only [Act.put,sA,sB,sC]
 refine tL (i := 5) (d := some 9) (v := ?vg5) rfl ?yg5 (Fr.refl _ _) ?rg5
 case yg5 =>
  intro wq hSw
  (try dsimp only at hSw)
  go_simp <;> with_reducible rfl
 try simp only [Act.put,sA,sB,sC]
 refine tL (i := 6) (d := some 10) (v := ?vg6) rfl ?yg6 (Fr.refl _ _) ?rg6
 case yg6 =>
  intro wq hSw
  (try dsimp only at hSw)
  have hq := hSw.cell_some Hc2.out (by simp)
  go_simp <;> with_reducible rfl
 try simp only [Act.put,sA,sB,sC]
 refine tL (i := 9) (d := some 13) (v := ?vg9) rfl ?yg9 (Fr.refl _ _) ?rg9
 case yg9 =>
  intro wq hSw
  (try dsimp only at hSw)
  go_simp <;> with_reducible rfl
 try simp only [Act.put,sA,sB,sC]
 refine tL (i := 10) (d := some 14) (v := ?vg10) rfl ?yg10 (Fr.refl _ _) ?rg10
 case yg10 =>
  intro wq hSw
  (try dsimp only at hSw)
  have hq := hSw.cell_some Hc0.out (by simp)
  go_simp <;> with_reducible rfl
 try simp only [Act.put,sA,sB,sC]
 refine tL (i := 11) (d := some 15) (v := ?vg11) rfl ?yg11 (Fr.refl _ _) ?rg11
 case yg11 =>
  intro wq hSw
  (try dsimp only at hSw)
  go_simp <;> with_reducible rfl
 try simp only [Act.put,sA,sB,sC]
 refine tL (i := 12) (d := some 16) (v := ?vg12) rfl ?yg12 (Fr.refl _ _) ?rg12
 case yg12 =>
  intro wq hSw
  (try dsimp only at hSw)
  have hq := hSw.cell_some Hc1.out (by simp)
  go_simp <;> with_reducible rfl
 try simp only [Act.put,sA,sB,sC]
 refine rW (i := 7) (d := some 11) rfl fun K hK => ?_
 go_simp
 have hh := arnew_yes DK (k + m) s wl.drew (by omega) (by omega) hs1 hs2
 rw [show (((k + m : Nat)) : Int) = IntKind.i64.wrap ((k : Int) + (m : Int)) from by rw [IntKind.wrap_i64]; omega] at hh
 refine hh.mono ?_; clear hh; rintro e wa ⟨A, S1, rfl, ha, hb, hS1⟩
 have hfr : Fr (fun b => w.heap.size < b) wl.drew wa := Fr.of_below hb
 have Ba := Lib.hid ((Hb.out.trans ((Below.drew (Below.refl _ _)).mono Hb.out.size)).trans (hb.mono (show w.heap.size ≤ wl.drew.heap.size from Hb.out.size)))
 have PWa := Lib.hid ha
 have Sa := Lib.hid (show ∀ b, S1 b → w.heap.size < b ∧ b < wa.heap.size from fun b h => ⟨by have := hS1 b h; have e : wl.drew.heap.size = w.heap.size + 1 := Hsz.out; omega, ha.old h⟩)
 have Za := Lib.hid (show w.heap.size < wa.heap.size from by have := hb.size; have e : wl.drew.heap.size = w.heap.size + 1 := Hsz.out; omega)
 clear ha hb hS1
 go_wp2_with fail
 refine hK.out _ _ hfr (fun hHeld => ?_)
 clear hK K hHeld
 try simp only [Act.put,sA,sB,sC]
 refine wpAnyH_re (S' := fun w' => Fr (fun b => w.heap.size < b) wa w') (fun w' h => hfr.trans h) ?_
 clear hfr
 refine rW (i := 8) (d := some 12) rfl fun K hK => ?_
 go_simp
 refine (new_any wa).mono ?_; rintro e wb1 ⟨rfl, hf, hb⟩
 have hfr : Fr (fun b => w.heap.size < b) wa wb1 := Fr.of_below hb
 have Bb := Lib.hid (Ba.out.trans (hb.mono Ba.out.size))
 have Pb := Lib.hid (PWa.out.later DK.lay hb)
 have Fb := Lib.hid hf
 have Zb := Lib.hid (show wa.heap.size ≤ wb1.heap.size from hb.size)
 obtain ⟨T, hT⟩ : ∃ T, T = wa.heap.size := ⟨_, rfl⟩
 rw [← hT] at Fb Sa Za Zb ⊢
 clear hf hb hT
 go_wp2_with fail
 refine hK.out _ _ hfr (fun hHeld => ?_)
 clear hK K hHeld
 try simp only [Act.put,sA,sB,sC]
 refine wpAnyH_re (S' := fun w' => Fr (fun b => w.heap.size < b) wb1 w') (fun w' h => hfr.trans h) ?_
 clear hfr
 refine rW (i := 13) (d := some 17) rfl fun K hK => ?_
 go_simp
 refine (cnew_own (T + 1) T (k : Int) (m : Int) (by omega) (by omega) wb1 Fb.out).mono ?_; rintro e wc ⟨h | ⟨K, M, C, hK1, hM1, rfl, hc, hC⟩, h1, hf⟩
 ·exfalso
  have h := h.1
  rw [mayB_t (by omega)] at h
  cases h
 obtain rfl : k = K := by omega
 obtain rfl : m = M := by omega
 have hfr : Fr (fun b => w.heap.size < b) wb1 wc := hf.mono (fun b hb => by have hb : b = T := hb; have := Za.out; show w.heap.size < b; omega)
 have Bc := Lib.hid (Bb.out.trans (hf.below Bb.out.size (fun b hb => by have hb : b = T := hb; have := Za.out; omega)))
 have Pc := Lib.hid (Pb.out.fr DK.lay hf (fun b hb h => by have h : b = T := h; have := (Sa.out b hb).2; omega))
 have Cc := Lib.hid hc
 have Zc := Lib.hid hC
 clear hc hC h1 hf hK1 hM1
 go_wp2_with fail
 refine hK.out _ _ hfr (fun hHeld => ?_)
 clear hK K hHeld
 try simp only [Act.put,sA,sB,sC]
 refine wpAnyH_re (S' := fun w' => Fr (fun b => w.heap.size < b) wc w') (fun w' h => hfr.trans h) ?_
 clear hfr
 refine tL (i := 14) (d := some 2) (v := ?vg14) rfl ?yg14 (Fr.refl _ _) ?rg14
 case yg14 =>
  intro wq hSw
  (try dsimp only at hSw)
  go_simp <;> with_reducible rfl
 try simp only [Act.put,sA,sB,sC]
 refine tL (i := 15) (d := some 3) (v := ?vg15) rfl ?yg15 (Fr.refl _ _) ?rg15
 case yg15 =>
  intro wq hSw
  (try dsimp only at hSw)
  go_simp <;> with_reducible rfl
 try simp only [Act.put,sA,sB,sC]
 refine tD ?_
 go_wp2_with fail
 go_ret2
 exact ⟨A, S1, C, T + 1, T, rfl, Pc.out, Cc.out, Bc.out, fun b hb => ⟨by have := (Sa.out b hb).1; omega, by have := (Sa.out b hb).2; have := Zb.out; have := Zc.out; omega, by have := (Sa.out b hb).2; omega, by have := (Sa.out b hb).2; omega⟩, by have := Zc.out; have := Zb.out; have := Za.out; omega, by have := Za.out; omega, by have := Za.out; omega⟩
end
end Go.Proofs.YtajdholblmdnjaaGreatDoor

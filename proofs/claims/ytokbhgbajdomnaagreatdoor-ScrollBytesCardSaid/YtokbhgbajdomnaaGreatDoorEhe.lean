/-
  Layer 15's Small and Made: which rows and places the laws speak of; a new array, a coder and a pool. Condition: bounds. (Written by gen_ehe.py.)
-/
import Derived.Test.YtokbhgbajdomnaaGreatDoorHc
import Derived.Test.YtokbhgbajdomnaaGreatDoorNa
import Derived.Test.YtokbhgbajdomnaaGreatDoorJa
import Derived.Deep.RegionHeld3
set_option linter.unusedVariables false
set_option maxRecDepth 20000
set_option maxHeartbeats 1600000
namespace Go.Proofs.YtokbhgbajdomnaaGreatDoor
open Go.RowKit Go.Proofs
def Small15 (k m f c : Int) : Prop := 1 ≤ k ∧ 1 ≤ m ∧ k + m ≤ 10 ∧ 0 ≤ f ∧ f ≤ 20 ∧ 1 ≤ c ∧ c ≤ 60
instance (k m f c : Int) : Decidable (Small15 k m f c) := by unfold Small15; infer_instance
theorem base_below (w : World) (k m f c : Int) : Below w.heap.size w (w.alloc (.cells #[.int .i64 k, .int .i64 m, .int .i64 f, .int .i64 c] 23)) := (Below.refl _ _).alloc (Nat.le_refl _) _
theorem small15_any (k m f c : Int) (bk : -9223372036854775808 ≤ k ∧ k < 9223372036854775808) (bm : -9223372036854775808 ≤ m ∧ m < 9223372036854775808) (w : World) :
  Calls Tryz.prog 8 #[.agg #[.int .i64 k, .int .i64 m, .int .i64 f, .int .i64 c]] w fun e w' => e = .returned (.bool (decide (Small15 k m f c))) ∧ Below w.heap.size w w' := by
 have hm := fun w => rmay_any k m bk bm w
 have Hb := qH (base_below w k m f c)
 by_cases h1 : 1 ≤ k ∧ 1 ≤ m ∧ k + m ≤ 255
 ·rw [mayB_t h1] at hm
  by_cases h2 : k + m ≤ 10
  ·by_cases h3 : 0 ≤ f
   ·by_cases h4 : f ≤ 20
    ·by_cases h5 : 1 ≤ c
     ·by_cases h6 : c ≤ 60
      ·rw [decide_eq_true (show Small15 k m f c from ⟨h1.1, h1.2.1, h2, h3, h4, h5, h6⟩)]
       go_enter Tryz.func8, Tryz.ntmps8
       go_wp2_with fail
       refine (hm _).mono ?_; rintro e w1 ⟨rfl, rfl⟩
       go_wp2_with fail
       go_ret
       refine ⟨?_, Hb.out⟩
       first | rfl | (simp [h6]; done)
      ·rw [decide_eq_false (show ¬ Small15 k m f c from fun h => h6 h.2.2.2.2.2.2)]
       go_enter Tryz.func8, Tryz.ntmps8
       go_wp2_with fail
       refine (hm _).mono ?_; rintro e w1 ⟨rfl, rfl⟩
       go_wp2_with fail
       go_ret
       refine ⟨?_, Hb.out⟩
       first | rfl | (simp [h6]; done)
     ·rw [decide_eq_false (show ¬ Small15 k m f c from fun h => h5 h.2.2.2.2.2.1)]
      go_enter Tryz.func8, Tryz.ntmps8
      go_wp2_with fail
      refine (hm _).mono ?_; rintro e w1 ⟨rfl, rfl⟩
      go_wp2_with fail
      go_ret
      refine ⟨?_, Hb.out⟩
      first | rfl | (simp [h6]; done)
    ·rw [decide_eq_false (show ¬ Small15 k m f c from fun h => h4 h.2.2.2.2.1)]
     go_enter Tryz.func8, Tryz.ntmps8
     go_wp2_with fail
     refine (hm _).mono ?_; rintro e w1 ⟨rfl, rfl⟩
     go_wp2_with fail
     go_ret
     refine ⟨?_, Hb.out⟩
     first | rfl | (simp [h6]; done)
   ·rw [decide_eq_false (show ¬ Small15 k m f c from fun h => h3 h.2.2.2.1)]
    go_enter Tryz.func8, Tryz.ntmps8
    go_wp2_with fail
    refine (hm _).mono ?_; rintro e w1 ⟨rfl, rfl⟩
    go_wp2_with fail
    go_ret
    refine ⟨?_, Hb.out⟩
    first | rfl | (simp [h6]; done)
  ·rw [decide_eq_false (show ¬ Small15 k m f c from fun h => h2 h.2.2.1)]
   go_enter Tryz.func8, Tryz.ntmps8
   go_wp2_with fail
   refine (hm _).mono ?_; rintro e w1 ⟨rfl, rfl⟩
   go_wp2_with fail
   go_ret
   refine ⟨?_, Hb.out⟩
   first | rfl | (simp [h6]; done)
 ·rw [mayB_f h1] at hm
  rw [decide_eq_false (show ¬ Small15 k m f c from fun h => h1 ⟨h.1, h.2.1, by have := h.2.2.1; omega⟩)]
  go_enter Tryz.func8, Tryz.ntmps8
  go_wp2_with fail
  refine (hm _).mono ?_; rintro e w1 ⟨rfl, rfl⟩
  go_wp2_with fail
  go_ret
  refine ⟨?_, Hb.out⟩
  first | rfl | (simp [h6]; done)
section
variable {Rep : World → (Nat → Prop) → Nat → Dv → Prop}
def RetMade15 (Rep : World → (Nat → Prop) → Nat → Dv → Prop) (k m f c : Nat) (w : World) (e : Ending) (w' : World) : Prop :=
 ∃ A S C F T U P, e = .returned (.tuple #[.pointer (some ⟨A, 0, none⟩), .pointer (some ⟨C, 0, none⟩), .pointer (some ⟨P, 0, none⟩)]) ∧ AP Rep w' S A (List.replicate (k + m) (Dv.new (f + c))) ∧ Cod w' C k m F T ∧ Below w.heap.size w w' ∧
  (∀ b, S b → w.heap.size ≤ b ∧ b < C ∧ b < F ∧ b < T) ∧ w.heap.size ≤ C ∧ w.heap.size ≤ F ∧ w.heap.size ≤ T ∧ Pl w' U P (newP f c) ∧ ∀ b, U b → w.heap.size ≤ b ∧ ¬ S b ∧ b ≠ C ∧ b ≠ F ∧ b ≠ T
theorem made15_any (DK : DrvK Rep) (k m f c : Nat) (hk : 1 ≤ k) (hm : 1 ≤ m) (hn : k + m ≤ 255) (hc1 : 1 ≤ c) (hc2 : c ≤ 400) (hs : f + c ≤ 600) (w : World) :
  Calls Tryz.prog 11 #[.agg #[.int .i64 (k : Int), .int .i64 (m : Int), .int .i64 (f : Int), .int .i64 (c : Int)]] w (RetMade15 Rep k m f c w) := by
 have Hb := qH (base_below w (k : Int) (m : Int) (f : Int) (c : Int))
 have hnew := heap_alloc_new w (.cells #[.int .i64 (k : Int), .int .i64 (m : Int), .int .i64 (f : Int), .int .i64 (c : Int)] 23)
 have hsz : (w.alloc (.cells #[.int .i64 (k : Int), .int .i64 (m : Int), .int .i64 (f : Int), .int .i64 (c : Int)] 23)).heap.size = w.heap.size + 1 := by simp
 have Hnew := qH hnew
 have Hsz := qH hsz
 clear hnew hsz
 go_enter Tryz.func11, Tryz.ntmps11
 go_wp2_with fail
 obtain ⟨wl, hwl⟩ : ∃ x, x = w.alloc (.cells #[.int .i64 (k : Int), .int .i64 (m : Int), .int .i64 (f : Int), .int .i64 (c : Int)] 23) := ⟨_, rfl⟩
 rw [← hwl] at Hb Hnew Hsz ⊢
 clear hwl
 have Hc0 := qH (show wl.drew.cell? ⟨w.heap.size, 0, none⟩ = some (.int .i64 (k : Int)) by rw [cell_of_row _ _ _ _ _ _ (show wl.drew.heap[w.heap.size]? = _ from Hnew.out)]; rfl)
 have Hc1 := qH (show wl.drew.cell? ⟨w.heap.size, 1, none⟩ = some (.int .i64 (m : Int)) by rw [cell_of_row _ _ _ _ _ _ (show wl.drew.heap[w.heap.size]? = _ from Hnew.out)]; rfl)
 have Hc2 := qH (show wl.drew.cell? ⟨w.heap.size, 2, none⟩ = some (.int .i64 (f : Int)) by rw [cell_of_row _ _ _ _ _ _ (show wl.drew.heap[w.heap.size]? = _ from Hnew.out)]; rfl)
 have Hc3 := qH (show wl.drew.cell? ⟨w.heap.size, 3, none⟩ = some (.int .i64 (c : Int)) by rw [cell_of_row _ _ _ _ _ _ (show wl.drew.heap[w.heap.size]? = _ from Hnew.out)]; rfl)
 refine wp_region_held_drew (S := fun w' => Fr (fun b => w.heap.size < b) wl.drew w') (by kernel_rfl) (Fr.refl _ _) (fun hHeld => ?_)
 clear hHeld
 refine tA 0 (some 5) rfl (Fr.refl _ _) ?_
 refine tL 1 (some 6) (v := ?vg1) rfl ?yg1 (Fr.refl _ _) ?rg1
 case yg1 =>
  intro wq hSw
  (try dsimp only at hSw)
  have hq := hSw.cell_some Hc0.out (by simp)
  go_simp <;> with_reducible rfl
 try simp only [Act.put,sA,sB,sC]
 refine tA 2 (some 7) rfl (Fr.refl _ _) ?_
 refine tL 3 (some 8) (v := ?vg3) rfl ?yg3 (Fr.refl _ _) ?rg3
 case yg3 =>
  intro wq hSw
  (try dsimp only at hSw)
  have hq := hSw.cell_some Hc1.out (by simp)
  go_simp <;> with_reducible rfl
 try simp only [Act.put,sA,sB,sC]
 refine tA 4 (some 9) rfl (Fr.refl _ _) ?_
 refine tA 5 (some 10) rfl (Fr.refl _ _) ?_
 refine tL 6 (some 11) (v := ?vg6) rfl ?yg6 (Fr.refl _ _) ?rg6
 case yg6 =>
  intro wq hSw
  (try dsimp only at hSw)
  have hq := hSw.cell_some Hc2.out (by simp)
  go_simp <;> with_reducible rfl
 try simp only [Act.put,sA,sB,sC]
 refine tA 7 (some 12) rfl (Fr.refl _ _) ?_
 refine tL 8 (some 13) (v := ?vg8) rfl ?yg8 (Fr.refl _ _) ?rg8
 case yg8 =>
  intro wq hSw
  (try dsimp only at hSw)
  have hq := hSw.cell_some Hc3.out (by simp)
  go_simp <;> with_reducible rfl
 try simp only [Act.put,sA,sB,sC]
 refine tA 9 (some 14) rfl (Fr.refl _ _) ?_
 refine tA 12 (some 17) rfl (Fr.refl _ _) ?_
 refine tL 13 (some 18) (v := ?vg13) rfl ?yg13 (Fr.refl _ _) ?rg13
 case yg13 =>
  intro wq hSw
  (try dsimp only at hSw)
  have hq := hSw.cell_some Hc0.out (by simp)
  go_simp <;> with_reducible rfl
 try simp only [Act.put,sA,sB,sC]
 refine tA 14 (some 19) rfl (Fr.refl _ _) ?_
 refine tL 15 (some 20) (v := ?vg15) rfl ?yg15 (Fr.refl _ _) ?rg15
 case yg15 =>
  intro wq hSw
  (try dsimp only at hSw)
  have hq := hSw.cell_some Hc1.out (by simp)
  go_simp <;> with_reducible rfl
 try simp only [Act.put,sA,sB,sC]
 refine tA 17 (some 22) rfl (Fr.refl _ _) ?_
 refine tL 18 (some 23) (v := ?vg18) rfl ?yg18 (Fr.refl _ _) ?rg18
 case yg18 =>
  intro wq hSw
  (try dsimp only at hSw)
  have hq := hSw.cell_some Hc2.out (by simp)
  go_simp <;> with_reducible rfl
 try simp only [Act.put,sA,sB,sC]
 refine tA 19 (some 24) rfl (Fr.refl _ _) ?_
 refine tL 20 (some 25) (v := ?vg20) rfl ?yg20 (Fr.refl _ _) ?rg20
 case yg20 =>
  intro wq hSw
  (try dsimp only at hSw)
  have hq := hSw.cell_some Hc3.out (by simp)
  go_simp <;> with_reducible rfl
 try simp only [Act.put,sA,sB,sC]
 refine rW 10 (some 15) rfl fun K hK => ?_
 go_simp
 have hh := arnew_yes DK (k + m) (f + c) wl.drew (by omega) (by omega) (by omega) hs
 rw [show (((k + m : Nat)) : Int) = IntKind.i64.wrap ((k : Int) + (m : Int)) from by rw [IntKind.wrap_i64]; omega, show (((f + c : Nat)) : Int) = IntKind.i64.wrap ((f : Int) + (c : Int)) from by rw [IntKind.wrap_i64]; omega] at hh
 refine hh.mono ?_; clear hh; rintro e wa ⟨A, S1, rfl, ha, hb, hS1⟩
 have hfr : Fr (fun b => w.heap.size < b) wl.drew wa := Fr.of_below hb
 have Ba := qH ((Hb.out.trans ((Below.drew (Below.refl _ _)).mono Hb.out.size)).trans (hb.mono (show w.heap.size ≤ wl.drew.heap.size from Hb.out.size)))
 have PWa := qH ha
 have Sa := qH (show ∀ b, S1 b → w.heap.size < b ∧ b < wa.heap.size from fun b h => ⟨by have := hS1 b h; have e : wl.drew.heap.size = w.heap.size + 1 := Hsz.out; omega, ha.old h⟩)
 have Za := qH (show w.heap.size < wa.heap.size from by have := hb.size; have e : wl.drew.heap.size = w.heap.size + 1 := Hsz.out; omega)
 clear ha hb hS1
 go_wp2_with fail
 refine hK.out _ _ hfr (fun hHeld => ?_)
 clear hK K hHeld
 try simp only [Act.put,sA,sB,sC]
 refine wpAnyH_re (S' := fun w' => Fr (fun b => w.heap.size < b) wa w') (fun w' h => hfr.trans h) ?_
 clear hfr
 refine rW 11 (some 16) rfl fun K hK => ?_
 go_simp
 refine (new_any wa).mono ?_; rintro e wb1 ⟨rfl, hf, hb⟩
 have hfr : Fr (fun b => w.heap.size < b) wa wb1 := Fr.of_below hb
 have Bb := qH (Ba.out.trans (hb.mono Ba.out.size))
 have Pb := qH (PWa.out.later DK.lay hb)
 have Fb := qH hf
 have Zb := qH (show wa.heap.size ≤ wb1.heap.size from hb.size)
 obtain ⟨T, hT⟩ : ∃ T, T = wa.heap.size := ⟨_, rfl⟩
 rw [← hT] at Fb Sa Za Zb ⊢
 clear hf hb hT
 go_wp2_with fail
 refine hK.out _ _ hfr (fun hHeld => ?_)
 clear hK K hHeld
 try simp only [Act.put,sA,sB,sC]
 refine wpAnyH_re (S' := fun w' => Fr (fun b => w.heap.size < b) wb1 w') (fun w' h => hfr.trans h) ?_
 clear hfr
 refine rW 16 (some 21) rfl fun K hK => ?_
 go_simp
 refine (cnew_own (T + 1) T (k : Int) (m : Int) (by omega) (by omega) wb1 Fb.out).mono ?_; rintro e wc ⟨h | ⟨K, M, C, hK1, hM1, rfl, hc, hC⟩, h1, hf⟩
 ·exfalso
  have h := h.1
  rw [mayB_t (by omega)] at h
  cases h
 obtain rfl : k = K := by omega
 obtain rfl : m = M := by omega
 have hfr : Fr (fun b => w.heap.size < b) wb1 wc := hf.mono (fun b hb => by have hb : b = T := hb; have := Za.out; show w.heap.size < b; omega)
 have Bc := qH (Bb.out.trans (hf.below Bb.out.size (fun b hb => by have hb : b = T := hb; have := Za.out; omega)))
 have Pc := qH (Pb.out.fr DK.lay hf (fun b hb h => by have h : b = T := h; have := (Sa.out b hb).2; omega))
 have Cc := qH hc
 have Zc := qH hC
 clear hc hC h1 hf hK1 hM1
 go_wp2_with fail
 refine hK.out _ _ hfr (fun hHeld => ?_)
 clear hK K hHeld
 try simp only [Act.put,sA,sB,sC]
 refine wpAnyH_re (S' := fun w' => Fr (fun b => w.heap.size < b) wc w') (fun w' h => hfr.trans h) ?_
 clear hfr
 refine rW 21 (some 26) rfl fun K hK => ?_
 go_simp
 refine (pnew_yes f c (by omega) (by omega) hs wc).mono ?_; rintro e wd ⟨U, P, rfl, hp, hb, hU⟩
 have hfr : Fr (fun b => w.heap.size < b) wc wd := Fr.of_below hb
 have Bd := qH (Bc.out.trans (hb.mono Bc.out.size))
 have Pd := qH (Pc.out.later DK.lay hb)
 have Cd := qH (Cc.out.later hb)
 have Ud := qH hU
 have Qd := qH hp
 clear hp hb hU
 go_wp2_with fail
 refine hK.out _ _ hfr (fun hHeld => ?_)
 clear hK K hHeld
 try simp only [Act.put,sA,sB,sC]
 refine wpAnyH_re (S' := fun w' => Fr (fun b => w.heap.size < b) wd w') (fun w' h => hfr.trans h) ?_
 clear hfr
 refine tA 22 (some 2) rfl (Fr.refl _ _) ?_
 refine tA 23 (some 3) rfl (Fr.refl _ _) ?_
 refine tA 24 (some 4) rfl (Fr.refl _ _) ?_
 refine tD ?_
 go_wp2_with fail
 go_ret3
 exact ⟨A, S1, C, T + 1, T, U, P, rfl, Pd.out, Cd.out, Bd.out, fun b hb => ⟨by have := (Sa.out b hb).1; omega, by have := (Sa.out b hb).2; have := Zb.out; have := Zc.out; omega, by have := (Sa.out b hb).2; omega, by have := (Sa.out b hb).2; omega⟩, by have := Zc.out; have := Zb.out; have := Za.out; omega, by have := Za.out; omega, by have := Za.out; omega, Qd.out, fun b hb => ⟨by have := Bc.out.size; have := Ud.out b hb; omega, fun q => by have := Pc.out.old q; have := Ud.out b hb; omega, fun q => by have := block_lt Cc.out.row; have := Ud.out b hb; omega, fun q => by have : T + 1 < wc.heap.size := World.block_lt_of_cell? wc _ Cc.out.fld.cell; have := Ud.out b hb; omega, fun q => by have := Cc.out.fld.fld.ltT; have := Ud.out b hb; omega⟩⟩
end
end Go.Proofs.YtokbhgbajdomnaaGreatDoor

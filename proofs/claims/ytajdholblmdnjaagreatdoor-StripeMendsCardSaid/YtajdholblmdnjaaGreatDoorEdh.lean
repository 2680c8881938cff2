/-
  Contract of package code's Join: what it makes lies in new memory (written by gen_edh.py out of XCah). Condition: the coder is one that New made.
-/
import Derived.Test.YtajdholblmdnjaaGreatDoorHb
import Derived.Test.YtajdholblmdnjaaGreatDoorIa
set_option linter.unusedVariables false
set_option maxRecDepth 100000
set_option maxHeartbeats 3200000
namespace Go.Proofs.YtajdholblmdnjaaGreatDoor
open Go.RowKit Go.Proofs
theorem own_lo_d {w : World} {B n c : Nat} {e : TypeId} {A : Option Addr} {xs : List Value} (h : w.ownsRow B e 1 (.slice A n c) n xs) (hn : 0 < n) : ∀ b o, A = some ⟨b, o, none⟩ → B ≤ b := by
 intro b o hA
 obtain ⟨g, cur, hg, hB, _⟩ := Mine.of_own h hn
 rw [hA] at hg
 injection hg with hg
 injection hg with hg _
 omega
theorem wpList_append_bl {w : World} {B n c : Nat} {A : Option Addr} {xs : List Value} {ops : Array Oper} {rest : List Oper} {o : Oper} {a : Act} {Q : Exit → Act → World → Prop} (hgd : o.guard = none) (s x : Operand)
  (ho : o.op = .call { callee := .builtin .append, args := #[s, x], argTypes := #[24, 24] })
  (hv : a.eval s = .slice A n c) (h : Own w B 5 1 A n c xs) (hB : B ≤ w.heap.size) (hlo : ∀ bb oo, 0 < n → A = some ⟨bb, oo, none⟩ → B ≤ bb)
  (A2 : Option Addr) (m c2 : Nat) (ys : List UInt8) (hx : a.eval x = .slice A2 m c2) (hs : Sl w 1 A2 m c2 (cells ys)) (h47 : n + m ≤ 140737488355328)
  (hk : ∀ A' c' w', Own w' B 5 1 A' (n + m) c' (xs ++ cells ys) → Below B w w' → (∀ bb oo, 0 < n + m → A' = some ⟨bb, oo, none⟩ → B ≤ bb) → wpList Tryz.prog ops Q rest (a.put o.dst (.slice A' (n + m) c')) w') : wpList Tryz.prog ops Q (o :: rest) a w := by
 obtain ⟨i0, hi, hz0, hz1, hz2⟩ := info_parts info_u8
 refine wpList_plain hgd fun K hK => ?_
 have hsrc := hs.src Tryz.underlying24 (by decide) (cells_one ys)
 by_cases hm : m = 0
 ·subst hm
  have hy : ys = [] := by
   have := hs.len
   rw [cells_length] at this
   exact List.eq_nil_of_length_eq_zero (by omega)
  subst hy
  have hr := run_append_nothing w 24 24 o.type 5 i0 Tryz.underlying24 hi A n c h.sl.cap (.slice A2 0 c2) (by rw [hz1]; exact hsrc)
  unfold Oper.wp execOp
  simp only [ho, resolve, invoke, builtin, Sem.run_bind, Sem.run_pure, Result.andThen_ok, List.map_toArray, List.map_cons, List.map_nil, hv, hx, hr]
  exact hK _ _ (hk A c w (by rw [Nat.add_zero, show cells [] = [] from rfl, List.append_nil]; exact h) (Below.refl _ _) (by rw [Nat.add_zero]; exact hlo))
 ·obtain ⟨A', c', w', hr, h2, h3, h4⟩ := run_append_mine (P := Tryz.prog) 24 24 o.type i0 (.int .u8 0) 1 Tryz.underlying24 hi hz0 hz1 hz2 rfl (by decide) h hB (.slice A2 m c2) m (cells ys) hsrc (by unfold maxLen; omega) (by omega)
  unfold Oper.wp execOp
  simp only [ho, resolve, invoke, builtin, Sem.run_bind, Sem.run_pure, Result.andThen_ok, List.map_toArray, List.map_cons, List.map_nil, hv, hx, hr]
  exact hK _ _ (hk A' c' w' h2 h3 (fun bb oo hn e => own_lo_d (h4 (by omega)) hn bb oo e))
theorem cjoin_new (C k m F T : Nat) (A : Option Addr) (n c : Nat) (rs : List (List UInt8)) (S : Int) (hS1 : -9223372036854775808 ≤ S) (hS2 : S < 9223372036854775808) (w : World) (h : Cod w C k m F T) (hg : Gr w A n c rs) (hW : ∀ r ∈ rs, r.length ≤ 1048576) :
  Calls Tryz.prog 42 #[.pointer (some ⟨C, 0, none⟩), .slice A n c, .int .i64 S] w fun e w' => Below w.heap.size w w' ∧
   (¬ okJ rs (k : Int) S ∧ e = .returned (.tuple #[.slice none 0 0, .int .i64 2]) ∨ okJ rs (k : Int) S ∧ ∃ A' n' c', e = .returned (.tuple #[.slice A' n' c', .int .i64 0]) ∧ NewB w A' n' c' (rs.flatten.take S.toNat) w') := by
 have hm := cmade_any C k m F T w h
 have h3 := h.n255
 have hk1 := h.k1
 have hlim := hg.lim
 unfold maxLen at hlim
 have H := Lib.hid h; clear h
 have Hg := Lib.hid hg; clear hg
 have ht := fun u hu => takes_any (k : Int) (m : Int) A n c rs u hu
 by_cases hev : evenB rs (k : Int) = true
 ·rw [hev] at ht
  have hnk : n = k := by
   rw [evenB, Bool.and_eq_true] at hev
   have := of_decide_eq_true hev.1
   have := Hg.out.len
   omega
  subst hnk
  have hlv : levelB rs = true := by
   rw [evenB, Bool.and_eq_true] at hev
   exact hev.2
  have hfl := flat_all hlv
  rw [Hg.out.len] at hfl
  have hW0 : (rs.getD 0 []).length ≤ 1048576 := hW _ (List.mem_of_getElem? (Hg.out.get (i := 0) (by omega)))
  obtain ⟨W, hWd⟩ : ∃ W, W = (rs.getD 0 []).length := ⟨_, rfl⟩
  rw [← hWd] at hfl hW0
  have hnW : n * W ≤ 255 * 1048576 := Nat.mul_le_mul (by omega) hW0
  obtain ⟨NW, hNW⟩ : ∃ NW, NW = n * W := ⟨_, rfl⟩
  have hNWi : (n : Int) * (W : Int) = (NW : Int) := by rw [hNW]; simp
  rw [← hNW] at hnW hfl
  replace hnW : NW ≤ 267386880 := by omega
  have HNW := Lib.hid hNW; clear hNW
  have HWd := Lib.hid hWd; clear hWd
  have Hev := Lib.hid hev; clear hev
  have Hfl := Lib.hid hfl; clear hfl
  have Hlv := Lib.hid hlv; clear hlv
  by_cases hneg : S < 0
  ·have dneg : decide (S < 0) = true := by simpa using hneg
   go_enter Tryz.func42, Tryz.ntmps42
   go_wp2_with fail
   refine hm.mono ?_; clear hm; rintro e w1 ⟨rfl, j, hw1⟩
   have hb1 : Below w.heap.size w w1 := by rw [hw1]; exact below_drewN (Below.refl _ _) j
   clear hw1
   have H1 := Lib.hid (H.out.later hb1)
   have hsz1 := hb1.size
   have Hb1 := Lib.hid hb1; clear hb1
   go_upto_region 3 with (fail)
   refine wp_region_held_drew (S := fun w' => Fr (fun _ => False) w1 w') (by kernel_rfl) (Fr.drew (Fr.refl _ _)) (fun hHeld => ?_)
   clear hHeld
   have hHeld : Fr (fun _ => False) w1 w1.drew := Fr.drew (Fr.refl _ _)
   have hz_0 : w1.heap.size ≤ w1.drew.heap.size := Nat.le_refl _
   obtain ⟨v_201, hw⟩ : ∃ v_201, v_201 = w1.drew := ⟨_, rfl⟩
   rw [← hw] at hHeld hz_0  ⊢
   clear hw
   refine tL (i := 0) (d := some 14) (v := ?vg0_202) rfl ?yg0_202 hHeld ?rg0_202
   case yg0_202 =>
    intro wq hSw
    (try dsimp only at hSw)
    go_simp <;> with_reducible rfl
   try simp only [Act.put,sA,sB,sC]
   refine tL (i := 1) (d := some 15) (v := ?vg1_203) rfl ?yg1_203 hHeld ?rg1_203
   case yg1_203 =>
    intro wq hSw
    (try dsimp only at hSw)
    go_simp <;> with_reducible rfl
   try simp only [Act.put,sA,sB,sC]
   refine tL (i := 2) (d := some 16) (v := ?vg2_204) rfl ?yg2_204 hHeld ?rg2_204
   case yg2_204 =>
    intro wq hSw
    (try dsimp only at hSw)
    go_simp <;> with_reducible rfl
   try simp only [Act.put,sA,sB,sC]
   refine tL (i := 3) (d := some 17) (v := ?vg3_205) rfl ?yg3_205 hHeld ?rg3_205
   case yg3_205 =>
    intro wq hSw
    (try dsimp only at hSw)
    have qc0 := hSw.cell_some H1.out.c0 (fun h => h)
    have qc1 := hSw.cell_some H1.out.c1 (fun h => h)
    go_simp <;> with_reducible rfl
   try simp only [Act.put,sA,sB,sC]
   refine tL (i := 4) (d := some 18) (v := ?vg4_206) rfl ?yg4_206 hHeld ?rg4_206
   case yg4_206 =>
    intro wq hSw
    (try dsimp only at hSw)
    go_simp <;> with_reducible rfl
   try simp only [Act.put,sA,sB,sC]
   refine rW (i := 5) (d := some 19) rfl fun K hK => ?_
   go_simp
   have hh := ht v_201 ((Hg.out.later Hb1.out).later (hHeld.belowAll (fun _ h => h.elim)))
   refine hh.mono ?_; clear hh; rintro e v_207 ⟨rfl, hbN⟩
   have hfN : Fr (fun _ => False) v_201 v_207 := Fr.of_below hbN
   clear hbN
   go_wp2_with fail
   have hHeld := hHeld.trans hfN
   have hz_208 := hfN.size
   refine hK.out _ _ hHeld fun _ => ?_
   clear hK K hfN
   try simp only [Act.put,sA,sB,sC]
   refine tL (i := 6) (d := some 20) (v := ?vg6_209) rfl ?yg6_209 hHeld ?rg6_209
   case yg6_209 =>
    intro wq hSw
    (try dsimp only at hSw)
    go_simp <;> with_reducible rfl
   try simp only [Act.put,sA,sB,sC]
   refine tL (i := 7) (d := some 21) (v := ?vg7_210) rfl ?yg7_210 hHeld ?rg7_210
   case yg7_210 =>
    intro wq hSw
    (try dsimp only at hSw)
    go_simp <;> with_reducible rfl
   try simp only [Act.put,sA,sB,sC]
   refine tL (i := 8) (d := some 22) (v := ?vg8_211) rfl ?yg8_211 hHeld ?rg8_211
   case yg8_211 =>
    intro wq hSw
    (try dsimp only at hSw)
    go_simp <;> with_reducible rfl
   try simp only [Act.put,sA,sB,sC]
   refine tL (i := 9) (d := some 23) (v := ?vg9_212) rfl ?yg9_212 hHeld ?rg9_212
   case yg9_212 =>
    intro wq hSw
    (try dsimp only at hSw)
    go_simp <;> with_reducible rfl
   try simp only [Act.put,sA,sB,sC]
   refine tL (i := 10) (d := some 24) (v := ?vg10_213) rfl ?yg10_213 hHeld ?rg10_213
   case yg10_213 =>
    intro wq hSw
    (try dsimp only at hSw)
    go_simp <;> with_reducible rfl
   try simp only [Act.put,sA,sB,sC]
   refine tL (i := 11) (d := some 25) (v := ?vg11_214) rfl ?yg11_214 hHeld ?rg11_214
   case yg11_214 =>
    intro wq hSw
    (try dsimp only at hSw)
    go_simp <;> with_reducible rfl
   try simp only [Act.put,sA,sB,sC]
   refine tU (i := 12) (d := some 26) rfl hHeld ?rg12_215
   try simp only [Act.put,sA,sB,sC]
   refine tU (i := 13) (d := some 27) rfl hHeld ?rg13_216
   try simp only [Act.put,sA,sB,sC]
   refine tU (i := 14) (d := some 28) rfl hHeld ?rg14_217
   try simp only [Act.put,sA,sB,sC]
   refine tU (i := 15) (d := some 29) rfl hHeld ?rg15_218
   try simp only [Act.put,sA,sB,sC]
   refine tU (i := 16) (d := some 30) rfl hHeld ?rg16_219
   try simp only [Act.put,sA,sB,sC]
   refine tU (i := 17) (d := some 31) rfl hHeld ?rg17_220
   try simp only [Act.put,sA,sB,sC]
   refine tU (i := 18) (d := some 32) rfl hHeld ?rg18_221
   try simp only [Act.put,sA,sB,sC]
   refine tU (i := 19) (d := some 33) rfl hHeld ?rg19_222
   try simp only [Act.put,sA,sB,sC]
   refine tU (i := 20) (d := some 34) rfl hHeld ?rg20_223
   try simp only [Act.put,sA,sB,sC]
   refine tU (i := 21) (d := some 35) rfl hHeld ?rg21_224
   try simp only [Act.put,sA,sB,sC]
   refine tU (i := 22) (d := some 36) rfl hHeld ?rg22_225
   try simp only [Act.put,sA,sB,sC]
   refine tU (i := 23) (d := some 37) rfl hHeld ?rg23_226
   try simp only [Act.put,sA,sB,sC]
   refine tL (i := 24) (d := some 38) (v := ?vg24_227) rfl ?yg24_227 hHeld ?rg24_227
   case yg24_227 =>
    intro wq hSw
    (try dsimp only at hSw)
    go_simp <;> with_reducible rfl
   try simp only [Act.put,sA,sB,sC]
   refine tD ?_
   have hbF := Hb1.out.trans ((hHeld.belowAll (fun _ h => h.elim)).mono hsz1)
   go_wp2_with fail
   go_ret2
   exact ⟨hbF, .inl ⟨fun hh => (by have h1 := hh.2.1; omega), rfl⟩⟩
  ·have dneg : decide (S < 0) = false := by simpa using hneg
   obtain ⟨b, o, rfl, hc⟩ := Hg.out.at_ (by omega)
   obtain ⟨A0, c0, hc0, hs0⟩ := hc 0 _ (Hg.out.get (by omega))
   rw [← HWd.out, Nat.add_zero] at hc0
   have Hc0 := Lib.hid hc0; clear hc0 hs0 hc
   have h0n : 0 < n := by omega
   have hwN : IntKind.i64.wrap (NW : Int) = (NW : Int) := by rw [IntKind.wrap_i64]; omega
   by_cases hgt : (NW : Int) < S
   ·have dgt : decide ((NW : Int) < S) = true := by simpa using hgt
    go_enter Tryz.func42, Tryz.ntmps42
    go_wp2_with fail
    refine hm.mono ?_; clear hm; rintro e w1 ⟨rfl, j, hw1⟩
    have hb1 : Below w.heap.size w w1 := by rw [hw1]; exact below_drewN (Below.refl _ _) j
    clear hw1
    have H1 := Lib.hid (H.out.later hb1)
    have hsz1 := hb1.size
    have Hb1 := Lib.hid hb1; clear hb1
    go_upto_region 3 with (fail)
    refine wp_region_held_drew (S := fun w' => Fr (fun _ => False) w1 w') (by kernel_rfl) (Fr.drew (Fr.refl _ _)) (fun hHeld => ?_)
    clear hHeld
    have hHeld : Fr (fun _ => False) w1 w1.drew := Fr.drew (Fr.refl _ _)
    have hz_0 : w1.heap.size ≤ w1.drew.heap.size := Nat.le_refl _
    obtain ⟨v_301, hw⟩ : ∃ v_301, v_301 = w1.drew := ⟨_, rfl⟩
    rw [← hw] at hHeld hz_0  ⊢
    clear hw
    refine tL (i := 0) (d := some 14) (v := ?vg0_302) rfl ?yg0_302 hHeld ?rg0_302
    case yg0_302 =>
     intro wq hSw
     (try dsimp only at hSw)
     go_simp <;> with_reducible rfl
    try simp only [Act.put,sA,sB,sC]
    refine tL (i := 1) (d := some 15) (v := ?vg1_303) rfl ?yg1_303 hHeld ?rg1_303
    case yg1_303 =>
     intro wq hSw
     (try dsimp only at hSw)
     go_simp <;> with_reducible rfl
    try simp only [Act.put,sA,sB,sC]
    refine tL (i := 2) (d := some 16) (v := ?vg2_304) rfl ?yg2_304 hHeld ?rg2_304
    case yg2_304 =>
     intro wq hSw
     (try dsimp only at hSw)
     go_simp <;> with_reducible rfl
    try simp only [Act.put,sA,sB,sC]
    refine tL (i := 3) (d := some 17) (v := ?vg3_305) rfl ?yg3_305 hHeld ?rg3_305
    case yg3_305 =>
     intro wq hSw
     (try dsimp only at hSw)
     have qc0 := hSw.cell_some H1.out.c0 (fun h => h)
     have qc1 := hSw.cell_some H1.out.c1 (fun h => h)
     go_simp <;> with_reducible rfl
    try simp only [Act.put,sA,sB,sC]
    refine tL (i := 4) (d := some 18) (v := ?vg4_306) rfl ?yg4_306 hHeld ?rg4_306
    case yg4_306 =>
     intro wq hSw
     (try dsimp only at hSw)
     go_simp <;> with_reducible rfl
    try simp only [Act.put,sA,sB,sC]
    refine rW (i := 5) (d := some 19) rfl fun K hK => ?_
    go_simp
    have hh := ht v_301 ((Hg.out.later Hb1.out).later (hHeld.belowAll (fun _ h => h.elim)))
    refine hh.mono ?_; clear hh; rintro e v_307 ⟨rfl, hbN⟩
    have hfN : Fr (fun _ => False) v_301 v_307 := Fr.of_below hbN
    clear hbN
    go_wp2_with fail
    have hHeld := hHeld.trans hfN
    have hz_308 := hfN.size
    refine hK.out _ _ hHeld fun _ => ?_
    clear hK K hfN
    try simp only [Act.put,sA,sB,sC]
    refine tL (i := 6) (d := some 20) (v := ?vg6_309) rfl ?yg6_309 hHeld ?rg6_309
    case yg6_309 =>
     intro wq hSw
     (try dsimp only at hSw)
     go_simp <;> with_reducible rfl
    try simp only [Act.put,sA,sB,sC]
    refine tL (i := 7) (d := some 21) (v := ?vg7_310) rfl ?yg7_310 hHeld ?rg7_310
    case yg7_310 =>
     intro wq hSw
     (try dsimp only at hSw)
     go_simp <;> with_reducible rfl
    try simp only [Act.put,sA,sB,sC]
    refine tL (i := 8) (d := some 22) (v := ?vg8_311) rfl ?yg8_311 hHeld ?rg8_311
    case yg8_311 =>
     intro wq hSw
     (try dsimp only at hSw)
     go_simp <;> with_reducible rfl
    try simp only [Act.put,sA,sB,sC]
    refine tL (i := 9) (d := some 23) (v := ?vg9_312) rfl ?yg9_312 hHeld ?rg9_312
    case yg9_312 =>
     intro wq hSw
     (try dsimp only at hSw)
     go_simp <;> with_reducible rfl
    try simp only [Act.put,sA,sB,sC]
    refine tL (i := 10) (d := some 24) (v := ?vg10_313) rfl ?yg10_313 hHeld ?rg10_313
    case yg10_313 =>
     intro wq hSw
     (try dsimp only at hSw)
     go_simp <;> with_reducible rfl
    try simp only [Act.put,sA,sB,sC]
    refine tL (i := 11) (d := some 25) (v := ?vg11_314) rfl ?yg11_314 hHeld ?rg11_314
    case yg11_314 =>
     intro wq hSw
     (try dsimp only at hSw)
     go_simp <;> with_reducible rfl
    try simp only [Act.put,sA,sB,sC]
    refine tL (i := 12) (d := some 26) (v := ?vg12_315) rfl ?yg12_315 hHeld ?rg12_315
    case yg12_315 =>
     intro wq hSw
     (try dsimp only at hSw)
     go_simp <;> with_reducible rfl
    try simp only [Act.put,sA,sB,sC]
    refine tL (i := 13) (d := some 27) (v := ?vg13_316) rfl ?yg13_316 hHeld ?rg13_316
    case yg13_316 =>
     intro wq hSw
     (try dsimp only at hSw)
     go_simp <;> with_reducible rfl
    try simp only [Act.put,sA,sB,sC]
    refine tL (i := 14) (d := some 28) (v := ?vg14_317) rfl ?yg14_317 hHeld ?rg14_317
    case yg14_317 =>
     intro wq hSw
     (try dsimp only at hSw)
     go_simp <;> with_reducible rfl
    try simp only [Act.put,sA,sB,sC]
    refine tL (i := 15) (d := some 29) (v := ?vg15_318) rfl ?yg15_318 hHeld ?rg15_318
    case yg15_318 =>
     intro wq hSw
     (try dsimp only at hSw)
     go_simp <;> with_reducible rfl
    try simp only [Act.put,sA,sB,sC]
    refine tL (i := 16) (d := some 30) (v := ?vg16_319) rfl ?yg16_319 hHeld ?rg16_319
    case yg16_319 =>
     intro wq hSw
     (try dsimp only at hSw)
     go_simp <;> with_reducible rfl
    try simp only [Act.put,sA,sB,sC]
    refine tL (i := 17) (d := some 31) (v := ?vg17_320) rfl ?yg17_320 hHeld ?rg17_320
    case yg17_320 =>
     intro wq hSw
     (try dsimp only at hSw)
     have qc0 := hSw.cell_some H1.out.c0 (fun h => h)
     go_simp <;> with_reducible rfl
    try simp only [Act.put,sA,sB,sC]
    refine tL (i := 18) (d := some 32) (v := ?vg18_321) rfl ?yg18_321 hHeld ?rg18_321
    case yg18_321 =>
     intro wq hSw
     (try dsimp only at hSw)
     go_simp <;> with_reducible rfl
    try simp only [Act.put,sA,sB,sC]
    refine tL (i := 19) (d := some 33) (v := ?vg19_322) rfl ?yg19_322 hHeld ?rg19_322
    case yg19_322 =>
     intro wq hSw
     (try dsimp only at hSw)
     go_simp <;> with_reducible rfl
    try simp only [Act.put,sA,sB,sC]
    refine tL (i := 20) (d := some 34) (v := ?vg20_323) rfl ?yg20_323 hHeld ?rg20_323
    case yg20_323 =>
     intro wq hSw
     (try dsimp only at hSw)
     have q0 := hSw.cell_some ((Hb1.out.cell (World.block_lt_of_cell? w _ Hc0.out)).trans Hc0.out) (fun h => h)
     go_simp <;> with_reducible rfl
    try simp only [Act.put,sA,sB,sC]
    refine tL (i := 21) (d := some 35) (v := ?vg21_324) rfl ?yg21_324 hHeld ?rg21_324
    case yg21_324 =>
     intro wq hSw
     (try dsimp only at hSw)
     go_simp <;> with_reducible rfl
    try simp only [Act.put,sA,sB,sC]
    refine tL (i := 22) (d := some 36) (v := ?vg22_325) rfl ?yg22_325 hHeld ?rg22_325
    case yg22_325 =>
     intro wq hSw
     (try dsimp only at hSw)
     go_simp <;> with_reducible rfl
    try simp only [Act.put,sA,sB,sC]
    refine tL (i := 23) (d := some 37) (v := ?vg23_326) rfl ?yg23_326 hHeld ?rg23_326
    case yg23_326 =>
     intro wq hSw
     (try dsimp only at hSw)
     go_simp <;> with_reducible rfl
    try simp only [Act.put,sA,sB,sC]
    refine tL (i := 24) (d := some 38) (v := ?vg24_327) rfl ?yg24_327 hHeld ?rg24_327
    case yg24_327 =>
     intro wq hSw
     (try dsimp only at hSw)
     go_simp <;> with_reducible rfl
    try simp only [Act.put,sA,sB,sC]
    refine tD ?_
    have hbF := Hb1.out.trans ((hHeld.belowAll (fun _ h => h.elim)).mono hsz1)
    go_wp2_with fail
    go_ret2
    exact ⟨hbF, .inl ⟨fun hh => (by have h1 := hh.2.2; rw [Hfl.out] at h1; omega), rfl⟩⟩
   ·have dgt : decide ((NW : Int) < S) = false := by simpa using hgt
    go_enter Tryz.func42, Tryz.ntmps42
    go_wp2_with fail
    refine hm.mono ?_; clear hm; rintro e w1 ⟨rfl, j, hw1⟩
    have hb1 : Below w.heap.size w w1 := by rw [hw1]; exact below_drewN (Below.refl _ _) j
    clear hw1
    have H1 := Lib.hid (H.out.later hb1)
    have hsz1 := hb1.size
    have Hb1 := Lib.hid hb1; clear hb1
    go_upto_region 3 with (fail)
    refine wp_region_held_drew (S := fun w' => Fr (fun _ => False) w1 w') (by kernel_rfl) (Fr.drew (Fr.refl _ _)) (fun hHeld => ?_)
    clear hHeld
    have hHeld : Fr (fun _ => False) w1 w1.drew := Fr.drew (Fr.refl _ _)
    have hz_0 : w1.heap.size ≤ w1.drew.heap.size := Nat.le_refl _
    obtain ⟨v_401, hw⟩ : ∃ v_401, v_401 = w1.drew := ⟨_, rfl⟩
    rw [← hw] at hHeld hz_0  ⊢
    clear hw
    refine tL (i := 0) (d := some 14) (v := ?vg0_402) rfl ?yg0_402 hHeld ?rg0_402
    case yg0_402 =>
     intro wq hSw
     (try dsimp only at hSw)
     go_simp <;> with_reducible rfl
    try simp only [Act.put,sA,sB,sC]
    refine tL (i := 1) (d := some 15) (v := ?vg1_403) rfl ?yg1_403 hHeld ?rg1_403
    case yg1_403 =>
     intro wq hSw
     (try dsimp only at hSw)
     go_simp <;> with_reducible rfl
    try simp only [Act.put,sA,sB,sC]
    refine tL (i := 2) (d := some 16) (v := ?vg2_404) rfl ?yg2_404 hHeld ?rg2_404
    case yg2_404 =>
     intro wq hSw
     (try dsimp only at hSw)
     go_simp <;> with_reducible rfl
    try simp only [Act.put,sA,sB,sC]
    refine tL (i := 3) (d := some 17) (v := ?vg3_405) rfl ?yg3_405 hHeld ?rg3_405
    case yg3_405 =>
     intro wq hSw
     (try dsimp only at hSw)
     have qc0 := hSw.cell_some H1.out.c0 (fun h => h)
     have qc1 := hSw.cell_some H1.out.c1 (fun h => h)
     go_simp <;> with_reducible rfl
    try simp only [Act.put,sA,sB,sC]
    refine tL (i := 4) (d := some 18) (v := ?vg4_406) rfl ?yg4_406 hHeld ?rg4_406
    case yg4_406 =>
     intro wq hSw
     (try dsimp only at hSw)
     go_simp <;> with_reducible rfl
    try simp only [Act.put,sA,sB,sC]
    refine rW (i := 5) (d := some 19) rfl fun K hK => ?_
    go_simp
    have hh := ht v_401 ((Hg.out.later Hb1.out).later (hHeld.belowAll (fun _ h => h.elim)))
    refine hh.mono ?_; clear hh; rintro e v_407 ⟨rfl, hbN⟩
    have hfN : Fr (fun _ => False) v_401 v_407 := Fr.of_below hbN
    clear hbN
    go_wp2_with fail
    have hHeld := hHeld.trans hfN
    have hz_408 := hfN.size
    refine hK.out _ _ hHeld fun _ => ?_
    clear hK K hfN
    try simp only [Act.put,sA,sB,sC]
    refine tL (i := 6) (d := some 20) (v := ?vg6_409) rfl ?yg6_409 hHeld ?rg6_409
    case yg6_409 =>
     intro wq hSw
     (try dsimp only at hSw)
     go_simp <;> with_reducible rfl
    try simp only [Act.put,sA,sB,sC]
    refine tL (i := 7) (d := some 21) (v := ?vg7_410) rfl ?yg7_410 hHeld ?rg7_410
    case yg7_410 =>
     intro wq hSw
     (try dsimp only at hSw)
     go_simp <;> with_reducible rfl
    try simp only [Act.put,sA,sB,sC]
    refine tL (i := 8) (d := some 22) (v := ?vg8_411) rfl ?yg8_411 hHeld ?rg8_411
    case yg8_411 =>
     intro wq hSw
     (try dsimp only at hSw)
     go_simp <;> with_reducible rfl
    try simp only [Act.put,sA,sB,sC]
    refine tL (i := 9) (d := some 23) (v := ?vg9_412) rfl ?yg9_412 hHeld ?rg9_412
    case yg9_412 =>
     intro wq hSw
     (try dsimp only at hSw)
     go_simp <;> with_reducible rfl
    try simp only [Act.put,sA,sB,sC]
    refine tL (i := 10) (d := some 24) (v := ?vg10_413) rfl ?yg10_413 hHeld ?rg10_413
    case yg10_413 =>
     intro wq hSw
     (try dsimp only at hSw)
     go_simp <;> with_reducible rfl
    try simp only [Act.put,sA,sB,sC]
    refine tL (i := 11) (d := some 25) (v := ?vg11_414) rfl ?yg11_414 hHeld ?rg11_414
    case yg11_414 =>
     intro wq hSw
     (try dsimp only at hSw)
     go_simp <;> with_reducible rfl
    try simp only [Act.put,sA,sB,sC]
    refine tL (i := 12) (d := some 26) (v := ?vg12_415) rfl ?yg12_415 hHeld ?rg12_415
    case yg12_415 =>
     intro wq hSw
     (try dsimp only at hSw)
     go_simp <;> with_reducible rfl
    try simp only [Act.put,sA,sB,sC]
    refine tL (i := 13) (d := some 27) (v := ?vg13_416) rfl ?yg13_416 hHeld ?rg13_416
    case yg13_416 =>
     intro wq hSw
     (try dsimp only at hSw)
     go_simp <;> with_reducible rfl
    try simp only [Act.put,sA,sB,sC]
    refine tL (i := 14) (d := some 28) (v := ?vg14_417) rfl ?yg14_417 hHeld ?rg14_417
    case yg14_417 =>
     intro wq hSw
     (try dsimp only at hSw)
     go_simp <;> with_reducible rfl
    try simp only [Act.put,sA,sB,sC]
    refine tL (i := 15) (d := some 29) (v := ?vg15_418) rfl ?yg15_418 hHeld ?rg15_418
    case yg15_418 =>
     intro wq hSw
     (try dsimp only at hSw)
     go_simp <;> with_reducible rfl
    try simp only [Act.put,sA,sB,sC]
    refine tL (i := 16) (d := some 30) (v := ?vg16_419) rfl ?yg16_419 hHeld ?rg16_419
    case yg16_419 =>
     intro wq hSw
     (try dsimp only at hSw)
     go_simp <;> with_reducible rfl
    try simp only [Act.put,sA,sB,sC]
    refine tL (i := 17) (d := some 31) (v := ?vg17_420) rfl ?yg17_420 hHeld ?rg17_420
    case yg17_420 =>
     intro wq hSw
     (try dsimp only at hSw)
     have qc0 := hSw.cell_some H1.out.c0 (fun h => h)
     go_simp <;> with_reducible rfl
    try simp only [Act.put,sA,sB,sC]
    refine tL (i := 18) (d := some 32) (v := ?vg18_421) rfl ?yg18_421 hHeld ?rg18_421
    case yg18_421 =>
     intro wq hSw
     (try dsimp only at hSw)
     go_simp <;> with_reducible rfl
    try simp only [Act.put,sA,sB,sC]
    refine tL (i := 19) (d := some 33) (v := ?vg19_422) rfl ?yg19_422 hHeld ?rg19_422
    case yg19_422 =>
     intro wq hSw
     (try dsimp only at hSw)
     go_simp <;> with_reducible rfl
    try simp only [Act.put,sA,sB,sC]
    refine tL (i := 20) (d := some 34) (v := ?vg20_423) rfl ?yg20_423 hHeld ?rg20_423
    case yg20_423 =>
     intro wq hSw
     (try dsimp only at hSw)
     have q0 := hSw.cell_some ((Hb1.out.cell (World.block_lt_of_cell? w _ Hc0.out)).trans Hc0.out) (fun h => h)
     go_simp <;> with_reducible rfl
    try simp only [Act.put,sA,sB,sC]
    refine tL (i := 21) (d := some 35) (v := ?vg21_424) rfl ?yg21_424 hHeld ?rg21_424
    case yg21_424 =>
     intro wq hSw
     (try dsimp only at hSw)
     go_simp <;> with_reducible rfl
    try simp only [Act.put,sA,sB,sC]
    refine tL (i := 22) (d := some 36) (v := ?vg22_425) rfl ?yg22_425 hHeld ?rg22_425
    case yg22_425 =>
     intro wq hSw
     (try dsimp only at hSw)
     go_simp <;> with_reducible rfl
    try simp only [Act.put,sA,sB,sC]
    refine tL (i := 23) (d := some 37) (v := ?vg23_426) rfl ?yg23_426 hHeld ?rg23_426
    case yg23_426 =>
     intro wq hSw
     (try dsimp only at hSw)
     go_simp <;> with_reducible rfl
    try simp only [Act.put,sA,sB,sC]
    refine tL (i := 24) (d := some 38) (v := ?vg24_427) rfl ?yg24_427 hHeld ?rg24_427
    case yg24_427 =>
     intro wq hSw
     (try dsimp only at hSw)
     go_simp <;> with_reducible rfl
    try simp only [Act.put,sA,sB,sC]
    refine tD ?_
    have hbF := Hb1.out.trans ((hHeld.belowAll (fun _ h => h.elim)).mono hsz1)
    have HbF := Lib.hid hbF; clear hbF
    have HG2 := Lib.hid (Hg.out.later HbF.out)
    have hszf := HbF.out.size
    obtain ⟨wf, hwf⟩ : ∃ x, x = v_407 := ⟨_, rfl⟩
    rw [← hwf] at HbF HG2 hszf ⊢
    clear hwf hHeld
    have hS30 : S ≤ 1073741824 := by omega
    obtain ⟨V, hV⟩ : ∃ V : Nat, S = (V : Int) := ⟨S.toNat, by omega⟩
    have hVn : V ≤ 1073741824 := by omega
    have hVN : V ≤ NW := by omega
    have hmk := make0_eq S V hV hVn
    subst hV
    go_wp2_with fail
    go_loopw [8, 43] (fun v i wr => ∃ (j q : Nat) (A' : Option Addr) (c' : Nat), j ≤ n ∧ i = .int .i64 (j : Int) ∧ q ≤ V ∧ q = min V (j * W) ∧ v = .slice A' q c' ∧ Own wr wf.heap.size 5 1 A' q c' (cells ((rs.take j).flatten.take V)) ∧ Below wf.heap.size wf wr ∧ ∀ bb oo, 0 < q → A' = some ⟨bb, oo, none⟩ → wf.heap.size ≤ bb) (fun _ i _ => n - (intOf i).toNat)
    case atStart => exact ⟨0, 0, _, _, by omega, rfl, by omega, by simp, rfl, by simpa using (Grow.made0 wf V (by unfold maxLen; omega)).own, (Below.refl _ _).alloc (Nat.le_refl _) _, fun bb oo h => absurd h (by omega)⟩
    case round =>
     obtain ⟨j, q, A', c', hj, rfl, hq, hqm, rfl, hO, hb, hlo⟩ := hrel
     have Hlo := Lib.hid hlo; clear hlo
     have HO := Lib.hid hO; clear hO
     have Hb := Lib.hid hb
     have hszr := hb.size
     have hqc := HO.out.sl.cap
     have hct := HO.out.sl.top
     unfold maxLen at hct
     have Hqm := Lib.hid hqm; clear hb hqm
     by_cases hlt : j < n
     ·obtain ⟨b', o', e, hc⟩ := (HG2.out.later Hb.out).at_ (by omega)
      injection e with e
      injection e with e1 e2
      subst e1; subst e2
      obtain ⟨Ar, cr, hcr, hsr⟩ := hc j _ (HG2.out.get hlt)
      have hlr : (rs.getD j []).length = W := by rw [HWd.out]; exact levelB_at Hlv.out (by rw [Hg.out.len]; exact hlt)
      rw [hlr] at hcr hsr
      have hcc := hsr.cap
      have hcc2 := hsr.top
      unfold maxLen at hcc2
      obtain ⟨r, hr⟩ : ∃ r, r = rs.getD j [] := ⟨_, rfl⟩
      rw [← hr] at hlr hsr
      have Hr := Lib.hid hr; clear hr
      have Hsr := Lib.hid hsr; clear hsr hc
      have Hlr := Lib.hid hlr; clear hlr
      have hji : (j : Int) < (n : Int) := by omega
      rcases Nat.lt_or_ge (V - q) W with hle | hle
      ·have hxi : (V : Int) - (q : Int) < (W : Int) := by omega
       have hqn : min V ((j + 1) * W) = V := by
        have := Hqm.out
        rw [Nat.add_mul, Nat.one_mul]
        omega
       have Hqn := Lib.hid hqn; clear hqn
       have Hpiece := Lib.hid (show Sl wr 1 Ar (V - q) cr (cells (r.take (V - q))) from by
        have := Hsr.out.sub1 0 (V - q) cr (Nat.zero_le _) (by omega) (by omega) (by unfold maxLen; omega)
        rw [Nat.sub_zero, List.drop_zero] at this
        rcases Ar with _ | ad
        ·exact this
        ·rw [Option.map_some, show ad.add 0 = ad from by obtain ⟨b, o, s⟩ := ad; unfold Addr.add; split <;> simp_all] at this
         exact this)
       go_wp2_with (at_builtin; refine wpList_append_bl (B := wf.heap.size) rfl (.tmp 47) (.tmp 56) rfl rfl HO.out (by omega) Hlo.out Ar (V - q) cr (r.take (V - q)) rfl Hpiece.out (by omega) ?pc)
       intro A2 c2 w2 ho2 hb2 hlo2
       have Hlo2 := Lib.hid hlo2; clear hlo2
       have hnext := flat_next (rs := rs) (j := j) (by rw [Hg.out.len]; exact hlt) V
       have hfj : (rs.take j).flatten.length = j * W := flat_lenC j (by rw [Hg.out.len]; omega) (fun i hi => by rw [HWd.out]; exact levelB_at Hlv.out hi)
       rw [hfj, ← Hr.out] at hnext
       have htk : r.take (V - j * W) = r.take (V - q) := by
        have h1 := Hlr.out
        have h3 := Hqm.out
        rcases Nat.le_total (j * W) V with h4 | h4
        ·obtain rfl : q = j * W := by omega
         first | rfl | (rw [List.take_of_length_le (by omega), List.take_of_length_le (by omega)])
        ·rw [show V - j * W = 0 by omega, show (V - q) = 0 by omega]
       rw [htk] at hnext
       rw [← cells_append, hnext] at ho2
       have Ho2 := Lib.hid ho2; clear ho2 hnext htk hfj
       have Hb2 := Lib.hid (Hb.out.trans hb2); clear hb2
       go_wp2_with fail
       go_roundw
       case rel => exact ⟨j + 1, V, A2, c2, by omega, by go_num, by omega, Hqn.out.symm, rfl, Ho2.out, Hb2.out, fun bb oo h e => Hlo2.out bb oo (by omega) e⟩
       case measure => simp [intOf]; omega
      ·have hxi : (W : Int) ≤ (V : Int) - (q : Int) := by omega
       have hqn : min V ((j + 1) * W) = q + W := by
        have := Hqm.out
        rw [Nat.add_mul, Nat.one_mul]
        omega
       have Hqn := Lib.hid hqn; clear hqn
       have Hpiece := Lib.hid (show Sl wr 1 Ar W cr (cells (r.take W)) from by
        have := Hsr.out.sub1 0 W cr (Nat.zero_le _) (by omega) (by omega) (by unfold maxLen; omega)
        rw [Nat.sub_zero, List.drop_zero] at this
        rcases Ar with _ | ad
        ·exact this
        ·rw [Option.map_some, show ad.add 0 = ad from by obtain ⟨b, o, s⟩ := ad; unfold Addr.add; split <;> simp_all] at this
         exact this)
       go_wp2_with (at_builtin; refine wpList_append_bl (B := wf.heap.size) rfl (.tmp 47) (.tmp 56) rfl rfl HO.out (by omega) Hlo.out Ar W cr (r.take W) rfl Hpiece.out (by omega) ?pd)
       intro A2 c2 w2 ho2 hb2 hlo2
       have Hlo2 := Lib.hid hlo2; clear hlo2
       have hnext := flat_next (rs := rs) (j := j) (by rw [Hg.out.len]; exact hlt) V
       have hfj : (rs.take j).flatten.length = j * W := flat_lenC j (by rw [Hg.out.len]; omega) (fun i hi => by rw [HWd.out]; exact levelB_at Hlv.out hi)
       rw [hfj, ← Hr.out] at hnext
       have htk : r.take (V - j * W) = r.take W := by
        have h1 := Hlr.out
        have h3 := Hqm.out
        rcases Nat.le_total (j * W) V with h4 | h4
        ·obtain rfl : q = j * W := by omega
         first | rfl | (rw [List.take_of_length_le (by omega), List.take_of_length_le (by omega)])
        ·rw [show V - j * W = 0 by omega, show W = 0 by omega]
       rw [htk] at hnext
       rw [← cells_append, hnext] at ho2
       have Ho2 := Lib.hid ho2; clear ho2 hnext htk hfj
       have Hb2 := Lib.hid (Hb.out.trans hb2); clear hb2
       go_wp2_with fail
       go_roundw
       case rel => exact ⟨j + 1, q + W, A2, c2, by omega, by go_num, by omega, Hqn.out.symm, rfl, Ho2.out, Hb2.out, fun bb oo h e => Hlo2.out bb oo (by omega) e⟩
       case measure => simp [intOf]; omega
     ·obtain rfl : j = n := by omega
      go_wp2_with fail
      go_ret2
      refine ⟨HbF.out.trans (Hb.out.mono hszf), .inr ⟨⟨Hev.out, by omega, by rw [Hfl.out]; omega⟩, A', q, c', rfl, ?_, HbF.out.trans (Hb.out.mono hszf), fun bb oo h e => Nat.le_trans hszf (Hlo.out bb oo h e)⟩⟩
      have := HO.out.sl
      rw [show rs.take j = rs from List.take_of_length_le (by rw [Hg.out.len]; exact Nat.le_refl _)] at this
      rw [Int.toNat_natCast]
      exact this
 ·have hev' : evenB rs (k : Int) = false := by simpa using hev
  rw [hev'] at ht
  have Hev := Lib.hid hev'; clear hev hev'
  go_enter Tryz.func42, Tryz.ntmps42
  go_wp2_with fail
  refine hm.mono ?_; clear hm; rintro e w1 ⟨rfl, j, hw1⟩
  have hb1 : Below w.heap.size w w1 := by rw [hw1]; exact below_drewN (Below.refl _ _) j
  clear hw1
  have H1 := Lib.hid (H.out.later hb1)
  have hsz1 := hb1.size
  have Hb1 := Lib.hid hb1; clear hb1
  go_upto_region 3 with (fail)
  refine wp_region_held_drew (S := fun w' => Fr (fun _ => False) w1 w') (by kernel_rfl) (Fr.drew (Fr.refl _ _)) (fun hHeld => ?_)
  clear hHeld
  have hHeld : Fr (fun _ => False) w1 w1.drew := Fr.drew (Fr.refl _ _)
  have hz_0 : w1.heap.size ≤ w1.drew.heap.size := Nat.le_refl _
  obtain ⟨v_101, hw⟩ : ∃ v_101, v_101 = w1.drew := ⟨_, rfl⟩
  rw [← hw] at hHeld hz_0  ⊢
  clear hw
  refine tL (i := 0) (d := some 14) (v := ?vg0_102) rfl ?yg0_102 hHeld ?rg0_102
  case yg0_102 =>
   intro wq hSw
   (try dsimp only at hSw)
   go_simp <;> with_reducible rfl
  try simp only [Act.put,sA,sB,sC]
  refine tL (i := 1) (d := some 15) (v := ?vg1_103) rfl ?yg1_103 hHeld ?rg1_103
  case yg1_103 =>
   intro wq hSw
   (try dsimp only at hSw)
   go_simp <;> with_reducible rfl
  try simp only [Act.put,sA,sB,sC]
  refine tL (i := 2) (d := some 16) (v := ?vg2_104) rfl ?yg2_104 hHeld ?rg2_104
  case yg2_104 =>
   intro wq hSw
   (try dsimp only at hSw)
   go_simp <;> with_reducible rfl
  try simp only [Act.put,sA,sB,sC]
  refine tL (i := 3) (d := some 17) (v := ?vg3_105) rfl ?yg3_105 hHeld ?rg3_105
  case yg3_105 =>
   intro wq hSw
   (try dsimp only at hSw)
   have qc0 := hSw.cell_some H1.out.c0 (fun h => h)
   have qc1 := hSw.cell_some H1.out.c1 (fun h => h)
   go_simp <;> with_reducible rfl
  try simp only [Act.put,sA,sB,sC]
  refine tL (i := 4) (d := some 18) (v := ?vg4_106) rfl ?yg4_106 hHeld ?rg4_106
  case yg4_106 =>
   intro wq hSw
   (try dsimp only at hSw)
   go_simp <;> with_reducible rfl
  try simp only [Act.put,sA,sB,sC]
  refine rW (i := 5) (d := some 19) rfl fun K hK => ?_
  go_simp
  have hh := ht v_101 ((Hg.out.later Hb1.out).later (hHeld.belowAll (fun _ h => h.elim)))
  refine hh.mono ?_; clear hh; rintro e v_107 ⟨rfl, hbN⟩
  have hfN : Fr (fun _ => False) v_101 v_107 := Fr.of_below hbN
  clear hbN
  go_wp2_with fail
  have hHeld := hHeld.trans hfN
  have hz_108 := hfN.size
  refine hK.out _ _ hHeld fun _ => ?_
  clear hK K hfN
  try simp only [Act.put,sA,sB,sC]
  refine tL (i := 6) (d := some 20) (v := ?vg6_109) rfl ?yg6_109 hHeld ?rg6_109
  case yg6_109 =>
   intro wq hSw
   (try dsimp only at hSw)
   go_simp <;> with_reducible rfl
  try simp only [Act.put,sA,sB,sC]
  refine tL (i := 7) (d := some 21) (v := ?vg7_110) rfl ?yg7_110 hHeld ?rg7_110
  case yg7_110 =>
   intro wq hSw
   (try dsimp only at hSw)
   go_simp <;> with_reducible rfl
  try simp only [Act.put,sA,sB,sC]
  refine tU (i := 8) (d := some 22) rfl hHeld ?rg8_111
  try simp only [Act.put,sA,sB,sC]
  refine tU (i := 9) (d := some 23) rfl hHeld ?rg9_112
  try simp only [Act.put,sA,sB,sC]
  refine tL (i := 10) (d := some 24) (v := ?vg10_113) rfl ?yg10_113 hHeld ?rg10_113
  case yg10_113 =>
   intro wq hSw
   (try dsimp only at hSw)
   go_simp <;> with_reducible rfl
  try simp only [Act.put,sA,sB,sC]
  refine tL (i := 11) (d := some 25) (v := ?vg11_114) rfl ?yg11_114 hHeld ?rg11_114
  case yg11_114 =>
   intro wq hSw
   (try dsimp only at hSw)
   go_simp <;> with_reducible rfl
  try simp only [Act.put,sA,sB,sC]
  refine tU (i := 12) (d := some 26) rfl hHeld ?rg12_115
  try simp only [Act.put,sA,sB,sC]
  refine tU (i := 13) (d := some 27) rfl hHeld ?rg13_116
  try simp only [Act.put,sA,sB,sC]
  refine tU (i := 14) (d := some 28) rfl hHeld ?rg14_117
  try simp only [Act.put,sA,sB,sC]
  refine tU (i := 15) (d := some 29) rfl hHeld ?rg15_118
  try simp only [Act.put,sA,sB,sC]
  refine tU (i := 16) (d := some 30) rfl hHeld ?rg16_119
  try simp only [Act.put,sA,sB,sC]
  refine tU (i := 17) (d := some 31) rfl hHeld ?rg17_120
  try simp only [Act.put,sA,sB,sC]
  refine tU (i := 18) (d := some 32) rfl hHeld ?rg18_121
  try simp only [Act.put,sA,sB,sC]
  refine tU (i := 19) (d := some 33) rfl hHeld ?rg19_122
  try simp only [Act.put,sA,sB,sC]
  refine tU (i := 20) (d := some 34) rfl hHeld ?rg20_123
  try simp only [Act.put,sA,sB,sC]
  refine tU (i := 21) (d := some 35) rfl hHeld ?rg21_124
  try simp only [Act.put,sA,sB,sC]
  refine tU (i := 22) (d := some 36) rfl hHeld ?rg22_125
  try simp only [Act.put,sA,sB,sC]
  refine tU (i := 23) (d := some 37) rfl hHeld ?rg23_126
  try simp only [Act.put,sA,sB,sC]
  refine tL (i := 24) (d := some 38) (v := ?vg24_127) rfl ?yg24_127 hHeld ?rg24_127
  case yg24_127 =>
   intro wq hSw
   (try dsimp only at hSw)
   go_simp <;> with_reducible rfl
  try simp only [Act.put,sA,sB,sC]
  refine tD ?_
  have hbF := Hb1.out.trans ((hHeld.belowAll (fun _ h => h.elim)).mono hsz1)
  go_wp2_with fail
  go_ret2
  exact ⟨hbF, .inl ⟨fun hh => absurd hh.1 (by rw [Hev.out]; decide), rfl⟩⟩
end Go.Proofs.YtajdholblmdnjaaGreatDoor

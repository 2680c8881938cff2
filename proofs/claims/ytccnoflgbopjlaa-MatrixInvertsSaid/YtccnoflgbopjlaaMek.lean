/-
  MatrixInverts returns true, whatever its arguments. No condition. (Written by gen_mek.py.)
-/
import Derived.Test.YtccnoflgbopjlaaMej
namespace Go.Proofs.Ytccnoflgbopjlaa
open Go.RowKit Go.Proofs
set_option linter.unusedVariables false

set_option maxRecDepth 20000 in
set_option maxHeartbeats 6400000 in
theorem matrixInverts_walk (m : M3) (P : Option Addr) (p : Nat) (w : World) (s1 : Sl w 1 P m.l.length p (cells m.l)) :
    Calls Try.prog 5 #[m.v P p] w (SaysTrue w) := by
  rw [M3.v]
  have hlim := s1.lim
  have K1 := Lib.hid s1; clear s1
  have hb0 : Below w.heap.size w (w.alloc (m.box P p)) := (Below.refl _ _).alloc (Nat.le_refl _) _
  have hx0 := heap_alloc_new w (m.box P p)
  by_cases ha : m.l.length ≤ 150
  · go_enter Try.func5, Try.ntmps5
    go_wp2_with fail
    have hh := few_any m.r m.c P m.l.length p (w.alloc (m.box P p))
    rw [decide_eq_true ha] at hh
    refine hh.mono ?_; clear hh; rintro e w1 ⟨rfl, hb1⟩
    have X1 := Lib.hid ((hb1.block _ (block_lt hx0)).trans hx0)
    have B1 := Lib.hid (hb0.trans (hb1.mono hb0.size))
    clear hx0 hb0 hb1
    go_wp2_with fail
    refine (new_any _).mono ?_; rintro e w2 ⟨rfl, hf, hb⟩
    have S0 := Lib.hid (St.one1 (B1.out.trans (hb.mono B1.out.size)) hf (block_lt X1.out) ((hb.block _ (block_lt X1.out)).trans X1.out) K1.out)
    clear hf hb
    have q11_0 : (w2).cell? ⟨w.heap.size, 0, none⟩ = some (.int .i64 m.r) := S0.out.c0 (v := ⟨w.heap.size, m, P, p⟩) (List.mem_iff_getElem?.2 ⟨0, rfl⟩)
    have q11_1 : (w2).cell? ⟨w.heap.size, 1, none⟩ = some (.int .i64 m.c) := S0.out.c1 (v := ⟨w.heap.size, m, P, p⟩) (List.mem_iff_getElem?.2 ⟨0, rfl⟩)
    have q11_2 : (w2).cell? ⟨w.heap.size, 2, none⟩ = some (.slice P m.l.length p) := S0.out.c2 (v := ⟨w.heap.size, m, P, p⟩) (List.mem_iff_getElem?.2 ⟨0, rfl⟩)
    go_wp2_with fail
    have hh := inv_all (w1.heap.size + 1) w1.heap.size m P p (w2) S0.out.inn.fld (S0.out.vars ⟨w.heap.size, m, P, p⟩ (List.mem_iff_getElem?.2 ⟨0, rfl⟩)).mx
    refine hh.mono ?_; clear hh; rintro e w12 ⟨⟨m12, A12, cp12, x12, rfl, hm, hR, _⟩, hf, hr⟩
    have R1 := Lib.hid hR; clear hR
    have S12 := Lib.hid ((S0.out.call hf hr).add m12 A12 cp12 hm)
    have bz12 := hr.size
    clear q11_0 q11_1 q11_2
    clear hm hf hr S0
    rw [M3.v]
    rcases R1.out with ⟨n, hM, ⟨X, hX, ho, hx⟩ | ⟨kk, hK, hk, ho, hx⟩⟩ | ⟨hno, ho, hx⟩
    · have HM := Lib.hid hM; clear hM
      have Ho := Lib.hid ho; clear ho
      subst hx
      have q13_0 : (w12.alloc (.cells #[.int .i64 m12.r, .int .i64 m12.c, .slice A12 m12.l.length cp12] 24)).cell? ⟨w.heap.size, 0, none⟩ = some (.int .i64 m.r) := S12.out.c0 (v := ⟨w.heap.size, m, P, p⟩) (List.mem_iff_getElem?.2 ⟨1, rfl⟩)
      have q13_1 : (w12.alloc (.cells #[.int .i64 m12.r, .int .i64 m12.c, .slice A12 m12.l.length cp12] 24)).cell? ⟨w.heap.size, 1, none⟩ = some (.int .i64 m.c) := S12.out.c1 (v := ⟨w.heap.size, m, P, p⟩) (List.mem_iff_getElem?.2 ⟨1, rfl⟩)
      have q13_2 : (w12.alloc (.cells #[.int .i64 m12.r, .int .i64 m12.c, .slice A12 m12.l.length cp12] 24)).cell? ⟨w.heap.size, 2, none⟩ = some (.slice P m.l.length p) := S12.out.c2 (v := ⟨w.heap.size, m, P, p⟩) (List.mem_iff_getElem?.2 ⟨1, rfl⟩)
      go_wp2_with fail
      have hh := rright_any m.r m.c P m.l.length p hlim (w12.alloc (.cells #[.int .i64 m12.r, .int .i64 m12.c, .slice A12 m12.l.length cp12] 24))
      rw [show rightB m.r m.c m.l.length = true from HM.out.ok] at hh
      refine hh.mono ?_; clear hh; rintro e w14 ⟨rfl, hb⟩
      have S14 := Lib.hid (S12.out.later hb)
      clear q13_0 q13_1 q13_2
      clear hb S12
      have dn : (m.r != m.c) = false := by have := HM.out.r; have := HM.out.c; simp; omega
      have q15_0 : (w14).cell? ⟨w.heap.size, 0, none⟩ = some (.int .i64 m.r) := S14.out.c0 (v := ⟨w.heap.size, m, P, p⟩) (List.mem_iff_getElem?.2 ⟨1, rfl⟩)
      have q15_1 : (w14).cell? ⟨w.heap.size, 1, none⟩ = some (.int .i64 m.c) := S14.out.c1 (v := ⟨w.heap.size, m, P, p⟩) (List.mem_iff_getElem?.2 ⟨1, rfl⟩)
      have HX := Lib.hid hX; clear hX
      have HK := Lib.hid (rk_of_inverse HX.out)
      go_upto_region 7 with (fail)
      clear q15_0 q15_1
      go_cut [49] (fun v49 wx => v49 = .bool false ∧ St w (w1.heap.size + 1) w1.heap.size [⟨w12.heap.size, m12, A12, cp12⟩, ⟨w.heap.size, m, P, p⟩] wx)
      case first =>
        have dl : decide ((n : Int) < m.r) = false := by have := HM.out.r; simp; omega
        have st0 := Lib.hid (S14.out.later (Below.drew (Below.refl _ _)))
        refine wp_region_held_drew (S := fun w' => Fr (Ft w1.heap.size) w14 w') (by kernel_rfl) (Fr.drew (Fr.refl _ _)) (fun hHeld => ?_)
        clear hHeld
        have hHeld : Fr (Ft w1.heap.size) w14 w14.drew := Fr.drew (Fr.refl _ _)
        have hz_0 : w14.heap.size ≤ w14.drew.heap.size := Nat.le_refl _
        obtain ⟨v_101, hw⟩ : ∃ v_101, v_101 = w14.drew := ⟨_, rfl⟩
        rw [← hw] at hHeld hz_0 st0 ⊢
        clear hw
        refine wpAnyH_take (i := 0) (oi := ⟨some 45, _, _, _, _, _⟩) (v := ?vg0_102) rfl (by kernel_rfl) (by kernel_rfl) (by kernel_rfl) (fun _ _ _ h => h) (Or.inl ⟨by rfl, ?yg0_102⟩) hHeld ?rg0_102
        case yg0_102 =>
          intro wq hSw
          (try dsimp only at hSw)
          have mb := (S14.out.vars ⟨w.heap.size, m, P, p⟩ (List.mem_iff_getElem?.2 ⟨1, rfl⟩)).next hSw
          have q0 := mb.c0; have q1 := mb.c1; have q2 := mb.c2
          clear mb
          first | (go_simp; done) | (go_simp; with_reducible rfl)
        try simp only [Act.put, List.setIfInBounds_toArray, List.set_cons_zero, List.set_cons_succ]
        refine wpAnyH_take (i := 2) (oi := ⟨some 47, _, _, _, _, _⟩) (v := ?vg2_103) rfl (by kernel_rfl) (by kernel_rfl) (by kernel_rfl) (fun _ _ _ h => h) (Or.inl ⟨by rfl, ?yg2_103⟩) hHeld ?rg2_103
        case yg2_103 =>
          intro wq hSw
          (try dsimp only at hSw)
          first | (go_simp; done) | (go_simp; with_reducible rfl)
        try simp only [Act.put, List.setIfInBounds_toArray, List.set_cons_zero, List.set_cons_succ]
        refine wpAnyH_take (i := 3) (oi := ⟨some 48, _, _, _, _, _⟩) (v := ?vg3_104) rfl (by kernel_rfl) (by kernel_rfl) (by kernel_rfl) (fun _ _ _ h => h) (Or.inl ⟨by rfl, ?yg3_104⟩) hHeld ?rg3_104
        case yg3_104 =>
          intro wq hSw
          (try dsimp only at hSw)
          have mb := (S14.out.vars ⟨w.heap.size, m, P, p⟩ (List.mem_iff_getElem?.2 ⟨1, rfl⟩)).next hSw
          have q0 := mb.c0; have q1 := mb.c1; have q2 := mb.c2
          clear mb
          first | (go_simp; done) | (go_simp; with_reducible rfl)
        try simp only [Act.put, List.setIfInBounds_toArray, List.set_cons_zero, List.set_cons_succ]
        refine wpAnyH_ready (rs := [1]) (by kernel_rfl) (by simp) ?_
        refine AllReadyH.cons (o := ⟨some 46, _, _, _, _, _⟩) rfl (fun K hK => ?_) (AllReadyH.nil)
        go_simp
        have hh := rrank_all m P p v_101 (st0.out.vars ⟨w.heap.size, m, P, p⟩ (List.mem_iff_getElem?.2 ⟨1, rfl⟩)).mx.sl
        refine hh.mono ?_; clear hh; rintro e v_105 ⟨⟨n', rfl, hn⟩, hb⟩
        obtain rfl : n' = (n : Int) := hn.one (.inl ⟨n, n, n, HM.out, rfl, HK.out⟩)
        clear hn
        have st_106 := Lib.hid (st0.out.later hb)
        have hfN : Fr (Ft w1.heap.size) v_101 v_105 := Fr.of_below hb
        clear hb
        have hHeld := hHeld.trans hfN
        have hz_107 := hfN.size
        refine hK.out _ _ hHeld (fun _ => ?_)
        clear hK K hfN
        try simp only [Act.put, List.setIfInBounds_toArray, List.set_cons_zero, List.set_cons_succ]
        refine wpAnyH_take (i := 4) (oi := ⟨some 49, _, _, _, _, _⟩) (v := ?vg4_108) rfl (by kernel_rfl) (by kernel_rfl) (by kernel_rfl) (fun _ _ _ h => h) (Or.inl ⟨by rfl, ?yg4_108⟩) hHeld ?rg4_108
        case yg4_108 =>
          intro wq hSw
          (try dsimp only at hSw)
          first | (go_simp; done) | (go_simp; with_reducible rfl)
        try simp only [Act.put, List.setIfInBounds_toArray, List.set_cons_zero, List.set_cons_succ]
        refine wpAnyH_done (by kernel_rfl) ?_ _
        go_wp2_with fail
        go_meet
        case rel => exact ⟨rfl, st_106.out⟩
      case rest =>
        obtain ⟨rfl, hS⟩ := hcut
        have S16 := Lib.hid hS; clear hS S14
        have q17_0 : (wc).cell? ⟨w.heap.size, 0, none⟩ = some (.int .i64 m.r) := S16.out.c0 (v := ⟨w.heap.size, m, P, p⟩) (List.mem_iff_getElem?.2 ⟨1, rfl⟩)
        go_wp2_with fail
        have hT18 := S16.out.inn.fld.ltT
        have hh := rid_of HM.out (wc)
        refine hh.mono ?_; clear hh; rintro e w18 ⟨⟨m18, A18, cp18, x18, rfl, hg, hR⟩, hb⟩
        have R2 := Lib.hid hR; clear hR
        have S18 := Lib.hid ((S16.out.later hb).add m18 A18 cp18 (hg.at_ hT18))
        clear q17_0
        clear hg hb S16
        rw [M3.v]
        have q19_0 : (w18.alloc (.cells #[.int .i64 m18.r, .int .i64 m18.c, .slice A18 m18.l.length cp18] 24)).cell? ⟨w.heap.size, 0, none⟩ = some (.int .i64 m.r) := S18.out.c0 (v := ⟨w.heap.size, m, P, p⟩) (List.mem_iff_getElem?.2 ⟨2, rfl⟩)
        have q19_1 : (w18.alloc (.cells #[.int .i64 m18.r, .int .i64 m18.c, .slice A18 m18.l.length cp18] 24)).cell? ⟨w.heap.size, 1, none⟩ = some (.int .i64 m.c) := S18.out.c1 (v := ⟨w.heap.size, m, P, p⟩) (List.mem_iff_getElem?.2 ⟨2, rfl⟩)
        have q19_2 : (w18.alloc (.cells #[.int .i64 m18.r, .int .i64 m18.c, .slice A18 m18.l.length cp18] 24)).cell? ⟨w.heap.size, 2, none⟩ = some (.slice P m.l.length p) := S18.out.c2 (v := ⟨w.heap.size, m, P, p⟩) (List.mem_iff_getElem?.2 ⟨2, rfl⟩)
        have q20_0 : (w18.alloc (.cells #[.int .i64 m18.r, .int .i64 m18.c, .slice A18 m18.l.length cp18] 24)).cell? ⟨w12.heap.size, 0, none⟩ = some (.int .i64 m12.r) := S18.out.c0 (v := ⟨w12.heap.size, m12, A12, cp12⟩) (List.mem_iff_getElem?.2 ⟨1, rfl⟩)
        have q20_1 : (w18.alloc (.cells #[.int .i64 m18.r, .int .i64 m18.c, .slice A18 m18.l.length cp18] 24)).cell? ⟨w12.heap.size, 1, none⟩ = some (.int .i64 m12.c) := S18.out.c1 (v := ⟨w12.heap.size, m12, A12, cp12⟩) (List.mem_iff_getElem?.2 ⟨1, rfl⟩)
        have q20_2 : (w18.alloc (.cells #[.int .i64 m18.r, .int .i64 m18.c, .slice A18 m18.l.length cp18] 24)).cell? ⟨w12.heap.size, 2, none⟩ = some (.slice A12 m12.l.length cp12) := S18.out.c2 (v := ⟨w12.heap.size, m12, A12, cp12⟩) (List.mem_iff_getElem?.2 ⟨1, rfl⟩)
        go_wp2_with fail
        have hT21 := S18.out.inn.fld.ltT
        have hh := rmm_all m m12 P A12 p cp12 (w18.alloc (.cells #[.int .i64 m18.r, .int .i64 m18.c, .slice A18 m18.l.length cp18] 24)) (S18.out.vars ⟨w.heap.size, m, P, p⟩ (List.mem_iff_getElem?.2 ⟨2, rfl⟩)).mx.sl (S18.out.vars ⟨w12.heap.size, m12, A12, cp12⟩ (List.mem_iff_getElem?.2 ⟨1, rfl⟩)).mx.sl
        refine hh.mono ?_; clear hh; rintro e w21 ⟨⟨m21, A21, cp21, x21, rfl, hg, hR⟩, hb⟩
        have R3 := Lib.hid hR; clear hR
        have S21 := Lib.hid ((S18.out.later hb).add m21 A21 cp21 (hg.at_ hT21))
        clear q19_0 q19_1 q19_2 q20_0 q20_1 q20_2
        clear hg hb S18
        rw [M3.v]
        have q22_0 : (w21.alloc (.cells #[.int .i64 m21.r, .int .i64 m21.c, .slice A21 m21.l.length cp21] 24)).cell? ⟨w.heap.size, 0, none⟩ = some (.int .i64 m.r) := S21.out.c0 (v := ⟨w.heap.size, m, P, p⟩) (List.mem_iff_getElem?.2 ⟨3, rfl⟩)
        have q22_1 : (w21.alloc (.cells #[.int .i64 m21.r, .int .i64 m21.c, .slice A21 m21.l.length cp21] 24)).cell? ⟨w.heap.size, 1, none⟩ = some (.int .i64 m.c) := S21.out.c1 (v := ⟨w.heap.size, m, P, p⟩) (List.mem_iff_getElem?.2 ⟨3, rfl⟩)
        have q22_2 : (w21.alloc (.cells #[.int .i64 m21.r, .int .i64 m21.c, .slice A21 m21.l.length cp21] 24)).cell? ⟨w.heap.size, 2, none⟩ = some (.slice P m.l.length p) := S21.out.c2 (v := ⟨w.heap.size, m, P, p⟩) (List.mem_iff_getElem?.2 ⟨3, rfl⟩)
        have q23_0 : (w21.alloc (.cells #[.int .i64 m21.r, .int .i64 m21.c, .slice A21 m21.l.length cp21] 24)).cell? ⟨w12.heap.size, 0, none⟩ = some (.int .i64 m12.r) := S21.out.c0 (v := ⟨w12.heap.size, m12, A12, cp12⟩) (List.mem_iff_getElem?.2 ⟨2, rfl⟩)
        have q23_1 : (w21.alloc (.cells #[.int .i64 m21.r, .int .i64 m21.c, .slice A21 m21.l.length cp21] 24)).cell? ⟨w12.heap.size, 1, none⟩ = some (.int .i64 m12.c) := S21.out.c1 (v := ⟨w12.heap.size, m12, A12, cp12⟩) (List.mem_iff_getElem?.2 ⟨2, rfl⟩)
        have q23_2 : (w21.alloc (.cells #[.int .i64 m21.r, .int .i64 m21.c, .slice A21 m21.l.length cp21] 24)).cell? ⟨w12.heap.size, 2, none⟩ = some (.slice A12 m12.l.length cp12) := S21.out.c2 (v := ⟨w12.heap.size, m12, A12, cp12⟩) (List.mem_iff_getElem?.2 ⟨2, rfl⟩)
        go_wp2_with fail
        have hT24 := S21.out.inn.fld.ltT
        have hh := rmm_all m12 m A12 P cp12 p (w21.alloc (.cells #[.int .i64 m21.r, .int .i64 m21.c, .slice A21 m21.l.length cp21] 24)) (S21.out.vars ⟨w12.heap.size, m12, A12, cp12⟩ (List.mem_iff_getElem?.2 ⟨2, rfl⟩)).mx.sl (S21.out.vars ⟨w.heap.size, m, P, p⟩ (List.mem_iff_getElem?.2 ⟨3, rfl⟩)).mx.sl
        refine hh.mono ?_; clear hh; rintro e w24 ⟨⟨m24, A24, cp24, x24, rfl, hg, hR⟩, hb⟩
        have R4 := Lib.hid hR; clear hR
        have S24 := Lib.hid ((S21.out.later hb).add m24 A24 cp24 (hg.at_ hT24))
        clear q22_0 q22_1 q22_2 q23_0 q23_1 q23_2
        clear hg hb S21
        rw [M3.v]
        obtain ⟨e1, h1⟩ := R3.out.go HM.out Ho.out
        obtain ⟨e2, h2⟩ := R4.out.go Ho.out HM.out
        have E1 := Lib.hid (h1.same R2.out.1 (inverse_both HX.out))
        have E2 := Lib.hid (h2.same R2.out.1 HX.out)
        subst e1; subst e2
        clear h1 h2
        have q25_0 : (w24.alloc (.cells #[.int .i64 m24.r, .int .i64 m24.c, .slice A24 m24.l.length cp24] 24)).cell? ⟨w.heap.size, 0, none⟩ = some (.int .i64 m.r) := S24.out.c0 (v := ⟨w.heap.size, m, P, p⟩) (List.mem_iff_getElem?.2 ⟨4, rfl⟩)
        have q25_1 : (w24.alloc (.cells #[.int .i64 m24.r, .int .i64 m24.c, .slice A24 m24.l.length cp24] 24)).cell? ⟨w.heap.size, 1, none⟩ = some (.int .i64 m.c) := S24.out.c1 (v := ⟨w.heap.size, m, P, p⟩) (List.mem_iff_getElem?.2 ⟨4, rfl⟩)
        have q25_2 : (w24.alloc (.cells #[.int .i64 m24.r, .int .i64 m24.c, .slice A24 m24.l.length cp24] 24)).cell? ⟨w.heap.size, 2, none⟩ = some (.slice P m.l.length p) := S24.out.c2 (v := ⟨w.heap.size, m, P, p⟩) (List.mem_iff_getElem?.2 ⟨4, rfl⟩)
        go_wp2_with fail
        have hh := invert_nil m.r m.c P m.l.length p (w24.alloc (.cells #[.int .i64 m24.r, .int .i64 m24.c, .slice A24 m24.l.length cp24] 24))
        refine hh.mono ?_; clear hh; rintro e w90 ⟨rfl, hb⟩
        have S90 := Lib.hid ((S24.out.later hb).later ((Below.refl _ _).alloc (Nat.le_refl _) (boxM 0 0 none 0 0)))
        clear q25_0 q25_1 q25_2
        clear hb S24
        rw [NoMx]
        have q26_0 : (w90.alloc (.cells #[.int .i64 0, .int .i64 0, .slice none 0 0] 24)).cell? ⟨w21.heap.size, 0, none⟩ = some (.int .i64 m21.r) := S90.out.c0 (v := ⟨w21.heap.size, m21, A21, cp21⟩) (List.mem_iff_getElem?.2 ⟨1, rfl⟩)
        have q26_1 : (w90.alloc (.cells #[.int .i64 0, .int .i64 0, .slice none 0 0] 24)).cell? ⟨w21.heap.size, 1, none⟩ = some (.int .i64 m21.c) := S90.out.c1 (v := ⟨w21.heap.size, m21, A21, cp21⟩) (List.mem_iff_getElem?.2 ⟨1, rfl⟩)
        have q26_2 : (w90.alloc (.cells #[.int .i64 0, .int .i64 0, .slice none 0 0] 24)).cell? ⟨w21.heap.size, 2, none⟩ = some (.slice A21 m21.l.length cp21) := S90.out.c2 (v := ⟨w21.heap.size, m21, A21, cp21⟩) (List.mem_iff_getElem?.2 ⟨1, rfl⟩)
        have q27_0 : (w90.alloc (.cells #[.int .i64 0, .int .i64 0, .slice none 0 0] 24)).cell? ⟨w18.heap.size, 0, none⟩ = some (.int .i64 m18.r) := S90.out.c0 (v := ⟨w18.heap.size, m18, A18, cp18⟩) (List.mem_iff_getElem?.2 ⟨2, rfl⟩)
        have q27_1 : (w90.alloc (.cells #[.int .i64 0, .int .i64 0, .slice none 0 0] 24)).cell? ⟨w18.heap.size, 1, none⟩ = some (.int .i64 m18.c) := S90.out.c1 (v := ⟨w18.heap.size, m18, A18, cp18⟩) (List.mem_iff_getElem?.2 ⟨2, rfl⟩)
        have q27_2 : (w90.alloc (.cells #[.int .i64 0, .int .i64 0, .slice none 0 0] 24)).cell? ⟨w18.heap.size, 2, none⟩ = some (.slice A18 m18.l.length cp18) := S90.out.c2 (v := ⟨w18.heap.size, m18, A18, cp18⟩) (List.mem_iff_getElem?.2 ⟨2, rfl⟩)
        go_wp2_with fail
        have hh := same_yes m21 m18 A21 A18 cp21 cp18 (w90.alloc (.cells #[.int .i64 0, .int .i64 0, .slice none 0 0] 24)) (S90.out.vars ⟨w21.heap.size, m21, A21, cp21⟩ (List.mem_iff_getElem?.2 ⟨1, rfl⟩)).mx.sl (S90.out.vars ⟨w18.heap.size, m18, A18, cp18⟩ (List.mem_iff_getElem?.2 ⟨2, rfl⟩)).mx.sl E1.out
        refine hh.mono ?_; clear hh; rintro e w28 ⟨rfl, hb⟩
        have S28 := Lib.hid (S90.out.later hb)
        clear q26_0 q26_1 q26_2 q27_0 q27_1 q27_2
        clear hb S90
        have q29_0 : (w28).cell? ⟨w24.heap.size, 0, none⟩ = some (.int .i64 m24.r) := S28.out.c0 (v := ⟨w24.heap.size, m24, A24, cp24⟩) (List.mem_iff_getElem?.2 ⟨0, rfl⟩)
        have q29_1 : (w28).cell? ⟨w24.heap.size, 1, none⟩ = some (.int .i64 m24.c) := S28.out.c1 (v := ⟨w24.heap.size, m24, A24, cp24⟩) (List.mem_iff_getElem?.2 ⟨0, rfl⟩)
        have q29_2 : (w28).cell? ⟨w24.heap.size, 2, none⟩ = some (.slice A24 m24.l.length cp24) := S28.out.c2 (v := ⟨w24.heap.size, m24, A24, cp24⟩) (List.mem_iff_getElem?.2 ⟨0, rfl⟩)
        have q30_0 : (w28).cell? ⟨w18.heap.size, 0, none⟩ = some (.int .i64 m18.r) := S28.out.c0 (v := ⟨w18.heap.size, m18, A18, cp18⟩) (List.mem_iff_getElem?.2 ⟨2, rfl⟩)
        have q30_1 : (w28).cell? ⟨w18.heap.size, 1, none⟩ = some (.int .i64 m18.c) := S28.out.c1 (v := ⟨w18.heap.size, m18, A18, cp18⟩) (List.mem_iff_getElem?.2 ⟨2, rfl⟩)
        have q30_2 : (w28).cell? ⟨w18.heap.size, 2, none⟩ = some (.slice A18 m18.l.length cp18) := S28.out.c2 (v := ⟨w18.heap.size, m18, A18, cp18⟩) (List.mem_iff_getElem?.2 ⟨2, rfl⟩)
        go_wp2_with fail
        have hh := same_yes m24 m18 A24 A18 cp24 cp18 (w28) (S28.out.vars ⟨w24.heap.size, m24, A24, cp24⟩ (List.mem_iff_getElem?.2 ⟨0, rfl⟩)).mx.sl (S28.out.vars ⟨w18.heap.size, m18, A18, cp18⟩ (List.mem_iff_getElem?.2 ⟨2, rfl⟩)).mx.sl E2.out
        refine hh.mono ?_; clear hh; rintro e w31 ⟨rfl, hb⟩
        have S31 := Lib.hid (S28.out.later hb)
        clear q29_0 q29_1 q29_2 q30_0 q30_1 q30_2
        clear hb S28
        go_wp2_with fail
        refine (stands_any _).mono ?_; rintro e w32 ⟨rfl, hb⟩
        have hend := Lib.hid (S31.out.later hb).inn.below; clear hb
        go_wp2_with fail
        go_ret
        exact ⟨rfl, hend.out⟩
    · have HM := Lib.hid hM; clear hM
      have Ho := Lib.hid ho; clear ho
      subst hx
      have q33_0 : (w12.alloc (.cells #[.int .i64 m12.r, .int .i64 m12.c, .slice A12 m12.l.length cp12] 24)).cell? ⟨w.heap.size, 0, none⟩ = some (.int .i64 m.r) := S12.out.c0 (v := ⟨w.heap.size, m, P, p⟩) (List.mem_iff_getElem?.2 ⟨1, rfl⟩)
      have q33_1 : (w12.alloc (.cells #[.int .i64 m12.r, .int .i64 m12.c, .slice A12 m12.l.length cp12] 24)).cell? ⟨w.heap.size, 1, none⟩ = some (.int .i64 m.c) := S12.out.c1 (v := ⟨w.heap.size, m, P, p⟩) (List.mem_iff_getElem?.2 ⟨1, rfl⟩)
      have q33_2 : (w12.alloc (.cells #[.int .i64 m12.r, .int .i64 m12.c, .slice A12 m12.l.length cp12] 24)).cell? ⟨w.heap.size, 2, none⟩ = some (.slice P m.l.length p) := S12.out.c2 (v := ⟨w.heap.size, m, P, p⟩) (List.mem_iff_getElem?.2 ⟨1, rfl⟩)
      go_wp2_with fail
      have hh := rright_any m.r m.c P m.l.length p hlim (w12.alloc (.cells #[.int .i64 m12.r, .int .i64 m12.c, .slice A12 m12.l.length cp12] 24))
      rw [show rightB m.r m.c m.l.length = true from HM.out.ok] at hh
      refine hh.mono ?_; clear hh; rintro e w34 ⟨rfl, hb⟩
      have S34 := Lib.hid (S12.out.later hb)
      clear q33_0 q33_1 q33_2
      clear hb S12
      have dn : (m.r != m.c) = false := by have := HM.out.r; have := HM.out.c; simp; omega
      have q35_0 : (w34).cell? ⟨w.heap.size, 0, none⟩ = some (.int .i64 m.r) := S34.out.c0 (v := ⟨w.heap.size, m, P, p⟩) (List.mem_iff_getElem?.2 ⟨1, rfl⟩)
      have q35_1 : (w34).cell? ⟨w.heap.size, 1, none⟩ = some (.int .i64 m.c) := S34.out.c1 (v := ⟨w.heap.size, m, P, p⟩) (List.mem_iff_getElem?.2 ⟨1, rfl⟩)
      have UQ := Lib.hid (show RkR m (kk : Int) from .inl ⟨n, n, kk, HM.out, rfl, hk⟩)
      clear hk
      go_upto_region 7 with (fail)
      clear q35_0 q35_1
      go_cut [49] (fun v49 wx => v49 = .bool true ∧ St w (w1.heap.size + 1) w1.heap.size [⟨w12.heap.size, m12, A12, cp12⟩, ⟨w.heap.size, m, P, p⟩] wx)
      case first =>
        have dl : decide ((kk : Int) < m.r) = true := by have := HM.out.r; simp; omega
        have st0 := Lib.hid (S34.out.later (Below.drew (Below.refl _ _)))
        refine wp_region_held_drew (S := fun w' => Fr (Ft w1.heap.size) w34 w') (by kernel_rfl) (Fr.drew (Fr.refl _ _)) (fun hHeld => ?_)
        clear hHeld
        have hHeld : Fr (Ft w1.heap.size) w34 w34.drew := Fr.drew (Fr.refl _ _)
        have hz_0 : w34.heap.size ≤ w34.drew.heap.size := Nat.le_refl _
        obtain ⟨v_201, hw⟩ : ∃ v_201, v_201 = w34.drew := ⟨_, rfl⟩
        rw [← hw] at hHeld hz_0 st0 ⊢
        clear hw
        refine wpAnyH_take (i := 0) (oi := ⟨some 45, _, _, _, _, _⟩) (v := ?vg0_202) rfl (by kernel_rfl) (by kernel_rfl) (by kernel_rfl) (fun _ _ _ h => h) (Or.inl ⟨by rfl, ?yg0_202⟩) hHeld ?rg0_202
        case yg0_202 =>
          intro wq hSw
          (try dsimp only at hSw)
          have mb := (S34.out.vars ⟨w.heap.size, m, P, p⟩ (List.mem_iff_getElem?.2 ⟨1, rfl⟩)).next hSw
          have q0 := mb.c0; have q1 := mb.c1; have q2 := mb.c2
          clear mb
          first | (go_simp; done) | (go_simp; with_reducible rfl)
        try simp only [Act.put, List.setIfInBounds_toArray, List.set_cons_zero, List.set_cons_succ]
        refine wpAnyH_take (i := 2) (oi := ⟨some 47, _, _, _, _, _⟩) (v := ?vg2_203) rfl (by kernel_rfl) (by kernel_rfl) (by kernel_rfl) (fun _ _ _ h => h) (Or.inl ⟨by rfl, ?yg2_203⟩) hHeld ?rg2_203
        case yg2_203 =>
          intro wq hSw
          (try dsimp only at hSw)
          first | (go_simp; done) | (go_simp; with_reducible rfl)
        try simp only [Act.put, List.setIfInBounds_toArray, List.set_cons_zero, List.set_cons_succ]
        refine wpAnyH_take (i := 3) (oi := ⟨some 48, _, _, _, _, _⟩) (v := ?vg3_204) rfl (by kernel_rfl) (by kernel_rfl) (by kernel_rfl) (fun _ _ _ h => h) (Or.inl ⟨by rfl, ?yg3_204⟩) hHeld ?rg3_204
        case yg3_204 =>
          intro wq hSw
          (try dsimp only at hSw)
          have mb := (S34.out.vars ⟨w.heap.size, m, P, p⟩ (List.mem_iff_getElem?.2 ⟨1, rfl⟩)).next hSw
          have q0 := mb.c0; have q1 := mb.c1; have q2 := mb.c2
          clear mb
          first | (go_simp; done) | (go_simp; with_reducible rfl)
        try simp only [Act.put, List.setIfInBounds_toArray, List.set_cons_zero, List.set_cons_succ]
        refine wpAnyH_ready (rs := [1]) (by kernel_rfl) (by simp) ?_
        refine AllReadyH.cons (o := ⟨some 46, _, _, _, _, _⟩) rfl (fun K hK => ?_) (AllReadyH.nil)
        go_simp
        have hh := rrank_all m P p v_201 (st0.out.vars ⟨w.heap.size, m, P, p⟩ (List.mem_iff_getElem?.2 ⟨1, rfl⟩)).mx.sl
        refine hh.mono ?_; clear hh; rintro e v_205 ⟨⟨n', rfl, hn⟩, hb⟩
        obtain rfl : n' = (kk : Int) := hn.one (UQ.out)
        clear hn
        have st_206 := Lib.hid (st0.out.later hb)
        have hfN : Fr (Ft w1.heap.size) v_201 v_205 := Fr.of_below hb
        clear hb
        have hHeld := hHeld.trans hfN
        have hz_207 := hfN.size
        refine hK.out _ _ hHeld (fun _ => ?_)
        clear hK K hfN
        try simp only [Act.put, List.setIfInBounds_toArray, List.set_cons_zero, List.set_cons_succ]
        refine wpAnyH_take (i := 4) (oi := ⟨some 49, _, _, _, _, _⟩) (v := ?vg4_208) rfl (by kernel_rfl) (by kernel_rfl) (by kernel_rfl) (fun _ _ _ h => h) (Or.inl ⟨by rfl, ?yg4_208⟩) hHeld ?rg4_208
        case yg4_208 =>
          intro wq hSw
          (try dsimp only at hSw)
          first | (go_simp; done) | (go_simp; with_reducible rfl)
        try simp only [Act.put, List.setIfInBounds_toArray, List.set_cons_zero, List.set_cons_succ]
        refine wpAnyH_done (by kernel_rfl) ?_ _
        go_wp2_with fail
        go_meet
        case rel => exact ⟨rfl, st_206.out⟩
      case rest =>
        obtain ⟨rfl, hS⟩ := hcut
        have S36 := Lib.hid hS; clear hS S34
        go_upto_region 8 with (fail)
        go_cut [2] (fun v2 wx => v2 = .bool true ∧ Below w.heap.size w wx)
        case first =>
          have st0 := Lib.hid (S36.out.later (Below.drew (Below.refl _ _)))
          refine wp_region_held_drew (S := fun w' => Fr (Ft w1.heap.size) wc w') (by kernel_rfl) (Fr.drew (Fr.refl _ _)) (fun hHeld => ?_)
          clear hHeld
          have hHeld : Fr (Ft w1.heap.size) wc wc.drew := Fr.drew (Fr.refl _ _)
          have hz_0 : wc.heap.size ≤ wc.drew.heap.size := Nat.le_refl _
          obtain ⟨v_301, hw⟩ : ∃ v_301, v_301 = wc.drew := ⟨_, rfl⟩
          rw [← hw] at hHeld hz_0 st0 ⊢
          clear hw
          refine wpAnyH_take (i := 0) (oi := ⟨some 50, _, _, _, _, _⟩) (v := ?vg0_302) rfl (by kernel_rfl) (by kernel_rfl) (by kernel_rfl) (fun _ _ _ h => h) (Or.inl ⟨by rfl, ?yg0_302⟩) hHeld ?rg0_302
          case yg0_302 =>
            intro wq hSw
            (try dsimp only at hSw)
            first | (go_simp; done) | (go_simp; with_reducible rfl)
          try simp only [Act.put, List.setIfInBounds_toArray, List.set_cons_zero, List.set_cons_succ]
          refine wpAnyH_take (i := 1) (oi := ⟨some 51, _, _, _, _, _⟩) (v := ?vg1_303) rfl (by kernel_rfl) (by kernel_rfl) (by kernel_rfl) (fun _ _ _ h => h) (Or.inl ⟨by rfl, ?yg1_303⟩) hHeld ?rg1_303
          case yg1_303 =>
            intro wq hSw
            (try dsimp only at hSw)
            first | (go_simp; done) | (go_simp; with_reducible rfl)
          try simp only [Act.put, List.setIfInBounds_toArray, List.set_cons_zero, List.set_cons_succ]
          refine wpAnyH_take (i := 2) (oi := ⟨some 52, _, _, _, _, _⟩) (v := ?vg2_304) rfl (by kernel_rfl) (by kernel_rfl) (by kernel_rfl) (fun _ _ _ h => h) (Or.inl ⟨by rfl, ?yg2_304⟩) hHeld ?rg2_304
          case yg2_304 =>
            intro wq hSw
            (try dsimp only at hSw)
            first | (go_simp; done) | (go_simp; with_reducible rfl)
          try simp only [Act.put, List.setIfInBounds_toArray, List.set_cons_zero, List.set_cons_succ]
          refine wpAnyH_take (i := 3) (oi := ⟨some 53, _, _, _, _, _⟩) (v := ?vg3_305) rfl (by kernel_rfl) (by kernel_rfl) (by kernel_rfl) (fun _ _ _ h => h) (Or.inl ⟨by rfl, ?yg3_305⟩) hHeld ?rg3_305
          case yg3_305 =>
            intro wq hSw
            (try dsimp only at hSw)
            have mb := (S36.out.vars ⟨w12.heap.size, m12, A12, cp12⟩ (List.mem_iff_getElem?.2 ⟨0, rfl⟩)).next hSw
            have q0 := mb.c0; have q1 := mb.c1; have q2 := mb.c2
            clear mb
            first | (go_simp; done) | (go_simp; with_reducible rfl)
          try simp only [Act.put, List.setIfInBounds_toArray, List.set_cons_zero, List.set_cons_succ]
          refine wpAnyH_take (i := 4) (oi := ⟨some 54, _, _, _, _, _⟩) (v := ?vg4_306) rfl (by kernel_rfl) (by kernel_rfl) (by kernel_rfl) (fun _ _ _ h => h) (Or.inl ⟨by rfl, ?yg4_306⟩) hHeld ?rg4_306
          case yg4_306 =>
            intro wq hSw
            (try dsimp only at hSw)
            first | (go_simp; done) | (go_simp; with_reducible rfl)
          try simp only [Act.put, List.setIfInBounds_toArray, List.set_cons_zero, List.set_cons_succ]
          refine wpAnyH_ready (rs := [5]) (by kernel_rfl) (by simp) ?_
          refine AllReadyH.cons (o := ⟨some 55, _, _, _, _, _⟩) rfl (fun K hK => ?_) (AllReadyH.nil)
          go_simp
          have hh := (show Calls Try.prog 13 #[.agg #[.int .i64 m12.r, .int .i64 m12.c, .slice A12 m12.l.length cp12], .agg #[.int .i64 0, .int .i64 0, .slice none 0 0]] v_301 (fun e w' => e = .returned (.bool true) ∧ Below v_301.heap.size v_301 w') from same_yes m12 M3.none A12 none cp12 0 v_301 (st0.out.vars ⟨w12.heap.size, m12, A12, cp12⟩ (List.mem_iff_getElem?.2 ⟨0, rfl⟩)).mx.sl (Sl.nil _ 1 0 (by decide)) Ho.out)
          refine hh.mono ?_; clear hh; rintro e v_307 ⟨rfl, hb⟩
          have st_308 := Lib.hid (st0.out.later hb)
          have hfN : Fr (Ft w1.heap.size) v_301 v_307 := Fr.of_below hb
          clear hb
          have hHeld := hHeld.trans hfN
          have hz_309 := hfN.size
          refine hK.out _ _ hHeld (fun _ => ?_)
          clear hK K hfN
          try simp only [Act.put, List.setIfInBounds_toArray, List.set_cons_zero, List.set_cons_succ]
          refine wpAnyH_take (i := 6) (oi := ⟨some 56, _, _, _, _, _⟩) (v := ?vg6_310) rfl (by kernel_rfl) (by kernel_rfl) (by kernel_rfl) (fun _ _ _ h => h) (Or.inl ⟨by rfl, ?yg6_310⟩) hHeld ?rg6_310
          case yg6_310 =>
            intro wq hSw
            (try dsimp only at hSw)
            first | (go_simp; done) | (go_simp; with_reducible rfl)
          try simp only [Act.put, List.setIfInBounds_toArray, List.set_cons_zero, List.set_cons_succ]
          refine wpAnyH_take (i := 7) (oi := ⟨some 57, _, _, _, _, _⟩) (v := ?vg7_311) rfl (by kernel_rfl) (by kernel_rfl) (by kernel_rfl) (fun _ _ _ h => h) (Or.inl ⟨by rfl, ?yg7_311⟩) hHeld ?rg7_311
          case yg7_311 =>
            intro wq hSw
            (try dsimp only at hSw)
            first | (go_simp; done) | (go_simp; with_reducible rfl)
          try simp only [Act.put, List.setIfInBounds_toArray, List.set_cons_zero, List.set_cons_succ]
          refine wpAnyH_take (i := 8) (oi := ⟨some 58, _, _, _, _, _⟩) (v := ?vg8_312) rfl (by kernel_rfl) (by kernel_rfl) (by kernel_rfl) (fun _ _ _ h => h) (Or.inl ⟨by rfl, ?yg8_312⟩) hHeld ?rg8_312
          case yg8_312 =>
            intro wq hSw
            (try dsimp only at hSw)
            first | (go_simp; done) | (go_simp; with_reducible rfl)
          try simp only [Act.put, List.setIfInBounds_toArray, List.set_cons_zero, List.set_cons_succ]
          refine wpAnyH_take (i := 9) (oi := ⟨some 59, _, _, _, _, _⟩) (v := ?vg9_313) rfl (by kernel_rfl) (by kernel_rfl) (by kernel_rfl) (fun _ _ _ h => h) (Or.inl ⟨by rfl, ?yg9_313⟩) hHeld ?rg9_313
          case yg9_313 =>
            intro wq hSw
            (try dsimp only at hSw)
            have mb := (S36.out.vars ⟨w.heap.size, m, P, p⟩ (List.mem_iff_getElem?.2 ⟨1, rfl⟩)).next hSw
            have q0 := mb.c0; have q1 := mb.c1; have q2 := mb.c2
            clear mb
            first | (go_simp; done) | (go_simp; with_reducible rfl)
          try simp only [Act.put, List.setIfInBounds_toArray, List.set_cons_zero, List.set_cons_succ]
          refine wpAnyH_take (i := 11) (oi := ⟨some 61, _, _, _, _, _⟩) (v := ?vg11_314) rfl (by kernel_rfl) (by kernel_rfl) (by kernel_rfl) (fun _ _ _ h => h) (Or.inl ⟨by rfl, ?yg11_314⟩) hHeld ?rg11_314
          case yg11_314 =>
            intro wq hSw
            (try dsimp only at hSw)
            have mb := (S36.out.vars ⟨w.heap.size, m, P, p⟩ (List.mem_iff_getElem?.2 ⟨1, rfl⟩)).next hSw
            have q0 := mb.c0; have q1 := mb.c1; have q2 := mb.c2
            clear mb
            first | (go_simp; done) | (go_simp; with_reducible rfl)
          try simp only [Act.put, List.setIfInBounds_toArray, List.set_cons_zero, List.set_cons_succ]
          refine wpAnyH_ready (rs := [10]) (by kernel_rfl) (by simp) ?_
          refine AllReadyH.cons (o := ⟨some 60, _, _, _, _, _⟩) rfl (fun K hK => ?_) (AllReadyH.nil)
          go_simp
          have hh := rank_all (w1.heap.size + 1) w1.heap.size m P p v_307 st_308.out.inn.fld (st_308.out.vars ⟨w.heap.size, m, P, p⟩ (List.mem_iff_getElem?.2 ⟨1, rfl⟩)).mx
          refine hh.mono ?_; clear hh; rintro e v_315 ⟨⟨n', rfl, hn⟩, hf, hfN⟩
          obtain rfl : n' = (kk : Int) := hn.one UQ.out
          clear hn
          have st_316 := Lib.hid (st_308.out.call hf hfN)
          clear hf
          have hHeld := hHeld.trans hfN
          have hz_317 := hfN.size
          refine hK.out _ _ hHeld (fun _ => ?_)
          clear hK K hfN
          try simp only [Act.put, List.setIfInBounds_toArray, List.set_cons_zero, List.set_cons_succ]
          refine wpAnyH_ready (rs := [12]) (by kernel_rfl) (by simp) ?_
          refine AllReadyH.cons (o := ⟨some 62, _, _, _, _, _⟩) rfl (fun K hK => ?_) (AllReadyH.nil)
          go_simp
          have hh := rrank_all m P p v_315 (st_316.out.vars ⟨w.heap.size, m, P, p⟩ (List.mem_iff_getElem?.2 ⟨1, rfl⟩)).mx.sl
          refine hh.mono ?_; clear hh; rintro e v_318 ⟨⟨n', rfl, hn⟩, hb⟩
          obtain rfl : n' = (kk : Int) := hn.one UQ.out
          clear hn
          have st_319 := Lib.hid (st_316.out.later hb)
          have hfN : Fr (Ft w1.heap.size) v_315 v_318 := Fr.of_below hb
          clear hb
          have hHeld := hHeld.trans hfN
          have hz_320 := hfN.size
          refine hK.out _ _ hHeld (fun _ => ?_)
          clear hK K hfN
          try simp only [Act.put, List.setIfInBounds_toArray, List.set_cons_zero, List.set_cons_succ]
          refine wpAnyH_take (i := 13) (oi := ⟨some 63, _, _, _, _, _⟩) (v := ?vg13_321) rfl (by kernel_rfl) (by kernel_rfl) (by kernel_rfl) (fun _ _ _ h => h) (Or.inl ⟨by rfl, ?yg13_321⟩) hHeld ?rg13_321
          case yg13_321 =>
            intro wq hSw
            (try dsimp only at hSw)
            first | (go_simp; done) | (go_simp; with_reducible rfl)
          try simp only [Act.put, List.setIfInBounds_toArray, List.set_cons_zero, List.set_cons_succ]
          refine wpAnyH_take (i := 14) (oi := ⟨some 64, _, _, _, _, _⟩) (v := ?vg14_322) rfl (by kernel_rfl) (by kernel_rfl) (by kernel_rfl) (fun _ _ _ h => h) (Or.inl ⟨by rfl, ?yg14_322⟩) hHeld ?rg14_322
          case yg14_322 =>
            intro wq hSw
            (try dsimp only at hSw)
            first | (go_simp; done) | (go_simp; with_reducible rfl)
          try simp only [Act.put, List.setIfInBounds_toArray, List.set_cons_zero, List.set_cons_succ]
          refine wpAnyH_take (i := 15) (oi := ⟨some 65, _, _, _, _, _⟩) (v := ?vg15_323) rfl (by kernel_rfl) (by kernel_rfl) (by kernel_rfl) (fun _ _ _ h => h) (Or.inl ⟨by rfl, ?yg15_323⟩) hHeld ?rg15_323
          case yg15_323 =>
            intro wq hSw
            (try dsimp only at hSw)
            first | (go_simp; done) | (go_simp; with_reducible rfl)
          try simp only [Act.put, List.setIfInBounds_toArray, List.set_cons_zero, List.set_cons_succ]
          refine wpAnyH_ready (rs := [16]) (by kernel_rfl) (by simp) ?_
          refine AllReadyH.cons (o := ⟨some 66, _, _, _, _, _⟩) rfl (fun K hK => ?_) (AllReadyH.nil)
          go_simp
          have hh := stands_any v_318
          refine hh.mono ?_; clear hh; rintro e v_324 ⟨rfl, hb⟩
          have st_325 := Lib.hid (st_319.out.later hb)
          have hfN : Fr (Ft w1.heap.size) v_318 v_324 := Fr.of_below hb
          clear hb
          have hHeld := hHeld.trans hfN
          have hz_326 := hfN.size
          refine hK.out _ _ hHeld (fun _ => ?_)
          clear hK K hfN
          try simp only [Act.put, List.setIfInBounds_toArray, List.set_cons_zero, List.set_cons_succ]
          refine wpAnyH_take (i := 17) (oi := ⟨some 67, _, _, _, _, _⟩) (v := ?vg17_327) rfl (by kernel_rfl) (by kernel_rfl) (by kernel_rfl) (fun _ _ _ h => h) (Or.inl ⟨by rfl, ?yg17_327⟩) hHeld ?rg17_327
          case yg17_327 =>
            intro wq hSw
            (try dsimp only at hSw)
            first | (go_simp; done) | (go_simp; with_reducible rfl)
          try simp only [Act.put, List.setIfInBounds_toArray, List.set_cons_zero, List.set_cons_succ]
          refine wpAnyH_take (i := 18) (oi := ⟨some 2, _, _, _, _, _⟩) (v := ?vg18_328) rfl (by kernel_rfl) (by kernel_rfl) (by kernel_rfl) (fun _ _ _ h => h) (Or.inl ⟨by rfl, ?yg18_328⟩) hHeld ?rg18_328
          case yg18_328 =>
            intro wq hSw
            (try dsimp only at hSw)
            first | (go_simp; done) | (go_simp; with_reducible rfl)
          try simp only [Act.put, List.setIfInBounds_toArray, List.set_cons_zero, List.set_cons_succ]
          refine wpAnyH_done (by kernel_rfl) ?_ _
          go_wp2_with fail
          go_meet
          case rel => exact ⟨rfl, st_325.out.inn.below⟩
        case rest =>
          obtain ⟨rfl, hend⟩ := hcut
          go_wp2_with fail
          go_ret
          exact ⟨rfl, hend⟩
    · have Ho := Lib.hid ho; clear ho
      subst hx
      by_cases hok : m.ok = true
      · have q37_0 : (w12.alloc (.cells #[.int .i64 m12.r, .int .i64 m12.c, .slice A12 m12.l.length cp12] 24)).cell? ⟨w.heap.size, 0, none⟩ = some (.int .i64 m.r) := S12.out.c0 (v := ⟨w.heap.size, m, P, p⟩) (List.mem_iff_getElem?.2 ⟨1, rfl⟩)
        have q37_1 : (w12.alloc (.cells #[.int .i64 m12.r, .int .i64 m12.c, .slice A12 m12.l.length cp12] 24)).cell? ⟨w.heap.size, 1, none⟩ = some (.int .i64 m.c) := S12.out.c1 (v := ⟨w.heap.size, m, P, p⟩) (List.mem_iff_getElem?.2 ⟨1, rfl⟩)
        have q37_2 : (w12.alloc (.cells #[.int .i64 m12.r, .int .i64 m12.c, .slice A12 m12.l.length cp12] 24)).cell? ⟨w.heap.size, 2, none⟩ = some (.slice P m.l.length p) := S12.out.c2 (v := ⟨w.heap.size, m, P, p⟩) (List.mem_iff_getElem?.2 ⟨1, rfl⟩)
        go_wp2_with fail
        have hh := rright_any m.r m.c P m.l.length p hlim (w12.alloc (.cells #[.int .i64 m12.r, .int .i64 m12.c, .slice A12 m12.l.length cp12] 24))
        rw [show rightB m.r m.c m.l.length = true from hok] at hh
        refine hh.mono ?_; clear hh; rintro e w38 ⟨rfl, hb⟩
        have S38 := Lib.hid (S12.out.later hb)
        clear q37_0 q37_1 q37_2
        clear hb S12
        have dn : (m.r != m.c) = true := by have : m.r ≠ m.c := fun e => hno ⟨hok, e⟩; simpa using this
        clear hno hok
        have q39_0 : (w38).cell? ⟨w.heap.size, 0, none⟩ = some (.int .i64 m.r) := S38.out.c0 (v := ⟨w.heap.size, m, P, p⟩) (List.mem_iff_getElem?.2 ⟨1, rfl⟩)
        have q39_1 : (w38).cell? ⟨w.heap.size, 1, none⟩ = some (.int .i64 m.c) := S38.out.c1 (v := ⟨w.heap.size, m, P, p⟩) (List.mem_iff_getElem?.2 ⟨1, rfl⟩)
        have q40_0 : (w38).cell? ⟨w12.heap.size, 0, none⟩ = some (.int .i64 m12.r) := S38.out.c0 (v := ⟨w12.heap.size, m12, A12, cp12⟩) (List.mem_iff_getElem?.2 ⟨0, rfl⟩)
        have q40_1 : (w38).cell? ⟨w12.heap.size, 1, none⟩ = some (.int .i64 m12.c) := S38.out.c1 (v := ⟨w12.heap.size, m12, A12, cp12⟩) (List.mem_iff_getElem?.2 ⟨0, rfl⟩)
        have q40_2 : (w38).cell? ⟨w12.heap.size, 2, none⟩ = some (.slice A12 m12.l.length cp12) := S38.out.c2 (v := ⟨w12.heap.size, m12, A12, cp12⟩) (List.mem_iff_getElem?.2 ⟨0, rfl⟩)
        go_wp2_with fail
        have hh : Calls Try.prog 13 #[.agg #[.int .i64 m12.r, .int .i64 m12.c, .slice A12 m12.l.length cp12], .agg #[.int .i64 0, .int .i64 0, .slice none 0 0]] (w38) fun e w' => e = .returned (.bool true) ∧ Below (w38).heap.size (w38) w' := same_yes m12 M3.none A12 none cp12 0 (w38) (S38.out.vars ⟨w12.heap.size, m12, A12, cp12⟩ (List.mem_iff_getElem?.2 ⟨0, rfl⟩)).mx.sl (Sl.nil _ 1 0 (by decide)) Ho.out
        have hh := hh
        refine hh.mono ?_; clear hh; rintro e w41 ⟨rfl, hb⟩
        have S41 := Lib.hid (S38.out.later hb)
        clear q39_0 q39_1 q40_0 q40_1 q40_2
        clear hb S38
        go_wp2_with fail
        refine (stands_any _).mono ?_; rintro e w42 ⟨rfl, hb⟩
        have hend := Lib.hid (S41.out.later hb).inn.below; clear hb
        go_wp2_with fail
        go_ret
        exact ⟨rfl, hend.out⟩
      · have q43_0 : (w12.alloc (.cells #[.int .i64 m12.r, .int .i64 m12.c, .slice A12 m12.l.length cp12] 24)).cell? ⟨w.heap.size, 0, none⟩ = some (.int .i64 m.r) := S12.out.c0 (v := ⟨w.heap.size, m, P, p⟩) (List.mem_iff_getElem?.2 ⟨1, rfl⟩)
        have q43_1 : (w12.alloc (.cells #[.int .i64 m12.r, .int .i64 m12.c, .slice A12 m12.l.length cp12] 24)).cell? ⟨w.heap.size, 1, none⟩ = some (.int .i64 m.c) := S12.out.c1 (v := ⟨w.heap.size, m, P, p⟩) (List.mem_iff_getElem?.2 ⟨1, rfl⟩)
        have q43_2 : (w12.alloc (.cells #[.int .i64 m12.r, .int .i64 m12.c, .slice A12 m12.l.length cp12] 24)).cell? ⟨w.heap.size, 2, none⟩ = some (.slice P m.l.length p) := S12.out.c2 (v := ⟨w.heap.size, m, P, p⟩) (List.mem_iff_getElem?.2 ⟨1, rfl⟩)
        go_wp2_with fail
        have hh := rright_any m.r m.c P m.l.length p hlim (w12.alloc (.cells #[.int .i64 m12.r, .int .i64 m12.c, .slice A12 m12.l.length cp12] 24))
        rw [show rightB m.r m.c m.l.length = false from M3.rightB_no hok] at hh
        refine hh.mono ?_; clear hh; rintro e w44 ⟨rfl, hb⟩
        have S44 := Lib.hid (S12.out.later hb)
        clear q43_0 q43_1 q43_2
        clear hb S12
        clear hno hok
        have q45_0 : (w44).cell? ⟨w12.heap.size, 0, none⟩ = some (.int .i64 m12.r) := S44.out.c0 (v := ⟨w12.heap.size, m12, A12, cp12⟩) (List.mem_iff_getElem?.2 ⟨0, rfl⟩)
        have q45_1 : (w44).cell? ⟨w12.heap.size, 1, none⟩ = some (.int .i64 m12.c) := S44.out.c1 (v := ⟨w12.heap.size, m12, A12, cp12⟩) (List.mem_iff_getElem?.2 ⟨0, rfl⟩)
        have q45_2 : (w44).cell? ⟨w12.heap.size, 2, none⟩ = some (.slice A12 m12.l.length cp12) := S44.out.c2 (v := ⟨w12.heap.size, m12, A12, cp12⟩) (List.mem_iff_getElem?.2 ⟨0, rfl⟩)
        go_wp2_with fail
        have hh : Calls Try.prog 13 #[.agg #[.int .i64 m12.r, .int .i64 m12.c, .slice A12 m12.l.length cp12], .agg #[.int .i64 0, .int .i64 0, .slice none 0 0]] (w44) fun e w' => e = .returned (.bool true) ∧ Below (w44).heap.size (w44) w' := same_yes m12 M3.none A12 none cp12 0 (w44) (S44.out.vars ⟨w12.heap.size, m12, A12, cp12⟩ (List.mem_iff_getElem?.2 ⟨0, rfl⟩)).mx.sl (Sl.nil _ 1 0 (by decide)) Ho.out
        have hh := hh
        refine hh.mono ?_; clear hh; rintro e w46 ⟨rfl, hb⟩
        have S46 := Lib.hid (S44.out.later hb)
        clear q45_0 q45_1 q45_2
        clear hb S44
        go_wp2_with fail
        refine (stands_any _).mono ?_; rintro e w47 ⟨rfl, hb⟩
        have hend := Lib.hid (S46.out.later hb).inn.below; clear hb
        go_wp2_with fail
        go_ret
        exact ⟨rfl, hend.out⟩
  · go_enter Try.func5, Try.ntmps5
    go_wp2_with fail
    have hh := few_any m.r m.c P m.l.length p (w.alloc (m.box P p))
    rw [decide_eq_false ha] at hh
    refine hh.mono ?_; clear hh; rintro e w1 ⟨rfl, hb1⟩
    go_wp2_with fail
    refine (stands_any _).mono ?_; rintro e w3 ⟨rfl, hb3⟩
    go_wp2_with fail
    go_ret
    exact ⟨rfl, (hb0.trans (hb1.mono hb0.size)).trans (hb3.mono (Nat.le_trans hb0.size hb1.size))⟩
end Go.Proofs.Ytccnoflgbopjlaa

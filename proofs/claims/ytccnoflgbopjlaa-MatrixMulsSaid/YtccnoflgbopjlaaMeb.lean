/-
  MatrixMuls returns true, whatever its arguments. No condition. (Written by gen_meb.py.)
-/
import Derived.Test.YtccnoflgbopjlaaMea
namespace Go.Proofs.Ytccnoflgbopjlaa
open Go.RowKit Go.Proofs
set_option linter.unusedVariables false

theorem argAt {w w' : World} {T : Nat} {m : M3} {A : Option Addr} {cp : Nat} (hs : Sl w 1 A m.l.length cp (cells m.l)) (hb : Below w.heap.size w w') (hT : w.heap.size ≤ T) : MxAt w' T A m.l.length cp m.l :=
  ⟨hs.below hb (Nat.le_refl _), fun b o hn hA => by have := hs.lt (by decide) hn hA; omega⟩

set_option maxRecDepth 20000 in
set_option maxHeartbeats 6400000 in
theorem matrixMuls_walk (a b : M3) (Pa Pb : Option Addr) (p1 p2 : Nat) (w : World) (s1 : Sl w 1 Pa a.l.length p1 (cells a.l)) (s2 : Sl w 1 Pb b.l.length p2 (cells b.l)) :
    Calls Try.prog 4 #[a.v Pa p1, b.v Pb p2] w (SaysTrue w) := by
  rw [M3.v, M3.v]
  have K1 := Lib.hid s1; clear s1
  have K2 := Lib.hid s2; clear s2
  have hb0 : Below w.heap.size w ((w.alloc (a.box Pa p1)).alloc (b.box Pb p2)) := ((Below.refl _ _).alloc (Nat.le_refl _) _).alloc (by simp) _
  have Xa := alloc2_old w (a.box Pa p1) (b.box Pb p2)
  have Xb := alloc2_new w (a.box Pa p1) (b.box Pb p2)
  have hz0 : ((w.alloc (a.box Pa p1)).alloc (b.box Pb p2)).heap.size = w.heap.size + 2 := by simp
  have Xa := Lib.hid Xa
  have Xb := Lib.hid Xb
  have Hz0 := Lib.hid hz0; clear hz0
  have Hb0 := Lib.hid hb0; clear hb0
  by_cases ha : a.l.length ≤ 150
  · by_cases hb : b.l.length ≤ 150
    · go_enter Try.func4, Try.ntmps4
      go_wp2_with fail
      have hh := few_any a.r a.c Pa a.l.length p1 ((w.alloc (a.box Pa p1)).alloc (b.box Pb p2))
      rw [decide_eq_true ha] at hh
      refine hh.mono ?_; clear hh; rintro e w1 ⟨rfl, hb1⟩
      have xb := (hb1.block _ (block_lt Xb.out)).trans Xb.out
      have b0 := boxM_0 xb; have b1 := boxM_1 xb; have b2 := boxM_2 xb
      go_wp2_with fail
      have hh := few_any b.r b.c Pb b.l.length p2 w1
      rw [decide_eq_true hb] at hh
      refine hh.mono ?_; clear hh; rintro e w2 ⟨rfl, hb2⟩
      have xa := (hb1.block _ (block_lt Xa.out)).trans Xa.out
      have XA := Lib.hid ((hb2.block _ (block_lt xa)).trans xa)
      have XB := Lib.hid ((hb2.block _ (block_lt xb)).trans xb)
      have Hb2 := Lib.hid ((Hb0.out.trans (hb1.mono Hb0.out.size)).trans (hb2.mono (Nat.le_trans Hb0.out.size hb1.size)))
      have hzw : w.heap.size + 2 ≤ w2.heap.size := by have := hb1.size; have := hb2.size; have := Hz0.out; omega
      clear xa xb b0 b1 b2 hb1 hb2
      have ax0 := boxM_0 XA.out; have ax1 := boxM_1 XA.out; have ax2 := boxM_2 XA.out
      have bx0 := boxM_0 XB.out; have bx1 := boxM_1 XB.out; have bx2 := boxM_2 XB.out
      go_upto_region 3 with (fail)
      go_cut [5, 6] (fun v5 v6 wx => ∃ (F T g : Nat) (m : M3) (A : Option Addr) (cp : Nat) (x : Int), v5 = .pointer (some ⟨g, 0, none⟩) ∧ v6 = .int .i64 x ∧ MulR a b m x ∧ St w F T [⟨g, m, A, cp⟩, ⟨w.heap.size, a, Pa, p1⟩, ⟨w.heap.size + 1, b, Pb, p2⟩] wx)
      case first =>
        refine wp_region_held_drew (S := fun w' => Below w2.heap.size w2 w') (by kernel_rfl) (Below.drew (Below.refl _ _)) (fun hHeld => ?_)
        clear hHeld
        have hHeld : Below w2.heap.size w2 w2.drew := Below.drew (Below.refl _ _)
        have hz_0 : w2.heap.size ≤ w2.drew.heap.size ∧ w2.drew.heap.size ≤ w2.heap.size := ⟨Nat.le_refl _, Nat.le_refl _⟩
        obtain ⟨v_1, hw⟩ : ∃ v_1, v_1 = w2.drew := ⟨_, rfl⟩
        rw [← hw] at hHeld hz_0 ⊢
        clear hw
        refine wpAnyH_take (i := 1) (oi := ⟨some 22, _, _, _, _, _⟩) (v := ?vg1_2) rfl (by kernel_rfl) (by kernel_rfl) (by kernel_rfl) (fun _ _ _ h => h) (Or.inl ⟨by rfl, ?yg1_2⟩) hHeld ?rg1_2
        case yg1_2 =>
          intro wq hSw
          (try dsimp only at hSw)
          have q0 := (hSw.cell (World.block_lt_of_cell? w2 _ ax0)).trans ax0
          have q1 := (hSw.cell (World.block_lt_of_cell? w2 _ ax1)).trans ax1
          have q2 := (hSw.cell (World.block_lt_of_cell? w2 _ ax2)).trans ax2
          first | (go_simp; done) | (go_simp; with_reducible rfl)
        try simp only [Act.put, List.setIfInBounds_toArray, List.set_cons_zero, List.set_cons_succ]
        refine wpAnyH_take (i := 2) (oi := ⟨some 23, _, _, _, _, _⟩) (v := ?vg2_3) rfl (by kernel_rfl) (by kernel_rfl) (by kernel_rfl) (fun _ _ _ h => h) (Or.inl ⟨by rfl, ?yg2_3⟩) hHeld ?rg2_3
        case yg2_3 =>
          intro wq hSw
          (try dsimp only at hSw)
          have q0 := (hSw.cell (World.block_lt_of_cell? w2 _ bx0)).trans bx0
          have q1 := (hSw.cell (World.block_lt_of_cell? w2 _ bx1)).trans bx1
          have q2 := (hSw.cell (World.block_lt_of_cell? w2 _ bx2)).trans bx2
          first | (go_simp; done) | (go_simp; with_reducible rfl)
        try simp only [Act.put, List.setIfInBounds_toArray, List.set_cons_zero, List.set_cons_succ]
        refine wpAnyH_ready (rs := [0, 7]) (by kernel_rfl) (by simp) ?_
        refine AllReadyH.cons (o := ⟨some 21, _, _, _, _, _⟩) rfl (fun K hK => ?_) (AllReadyH.cons (o := ⟨some 5, _, _, _, _, _⟩) rfl (fun K hK => ?_) (AllReadyH.nil))
        · go_simp
          refine (new_any v_1).mono ?_; rintro e v_5 ⟨rfl, hf, hb⟩
          have fl := Lib.hid hf
          have hlt := hf.ltF
          clear hf
          have hfN : Fr (fun _ => False) v_1 v_5 := Fr.of_below hb
          have hH2 : Below w2.heap.size w2 v_5 := hHeld.trans (hb.mono hHeld.size)
          clear hb
          go_wp2_with fail
          have hHeld := hH2
          clear hH2
          have hz_6 := hfN.size
          refine hK.out _ _ hHeld (fun _ => ?_)
          clear hK K hfN
          try simp only [Act.put, List.setIfInBounds_toArray, List.set_cons_zero, List.set_cons_succ]
          refine wpAnyH_ready (rs := [3, 7]) (by kernel_rfl) (by simp) ?_
          refine AllReadyH.cons (o := ⟨some 24, _, _, _, _, _⟩) rfl (fun K hK => ?_) (AllReadyH.cons (o := ⟨some 5, _, _, _, _, _⟩) rfl (fun K hK => ?_) (AllReadyH.nil))
          · go_simp
            have hh := mul_all (v_1.heap.size + 1) (v_1.heap.size) a b Pa Pb p1 p2 v_5 fl.out (argAt K1.out (Hb2.out.trans (hHeld.mono Hb2.out.size)) (by omega)) (argAt K2.out (Hb2.out.trans (hHeld.mono Hb2.out.size)) (by omega))
            refine hh.mono ?_; clear hh; rintro e v_8 ⟨⟨m, A, cp, x, rfl, hm, hR, hnew⟩, hf, hr⟩
            have hup := fun b o (hn : 0 < m.l.length) (hA : A = some ⟨b, o, none⟩) => hm.sl.lt (by decide) hn hA
            have mx := Lib.hid hm
            have fm := Lib.hid hf
            have R1 := Lib.hid hR
            have HA := Lib.hid (fun b o hn hA => And.intro (hnew b o hn hA) (hup b o hn hA))
            clear hm hf hR hnew hup
            have hfN : Fr (fun k => k = v_1.heap.size) v_5 v_8 := hr
            have hH2 : Below w2.heap.size w2 v_8 := hHeld.trans (hr.below hHeld.size (fun k hk => by have hk : k = v_1.heap.size := hk; omega))
            clear hr
            rw [M3.v]
            go_wp2_with fail
            have hHeld := hH2
            clear hH2
            have hz_9 := hfN.size
            refine hK.out _ _ hHeld (fun _ => ?_)
            clear hK K hfN
            try simp only [Act.put, List.setIfInBounds_toArray, List.set_cons_zero, List.set_cons_succ]
            refine wpAnyH_take (i := 4) (oi := ⟨some 20, _, _, _, _, _⟩) (v := ?vg4_10) rfl (by kernel_rfl) (by kernel_rfl) (by kernel_rfl) (fun _ _ _ h => h) (Or.inl ⟨by rfl, ?yg4_10⟩) hHeld ?rg4_10
            case yg4_10 =>
              intro wq hSw
              (try dsimp only at hSw)
              first | (go_simp; done) | (go_simp; with_reducible rfl)
            try simp only [Act.put, List.setIfInBounds_toArray, List.set_cons_zero, List.set_cons_succ]
            refine wpAnyH_take (i := 5) (oi := ⟨some 25, _, _, _, _, _⟩) (v := ?vg5_11) rfl (by kernel_rfl) (by kernel_rfl) (by kernel_rfl) (fun _ _ _ h => h) (Or.inl ⟨by rfl, ?yg5_11⟩) hHeld ?rg5_11
            case yg5_11 =>
              intro wq hSw
              (try dsimp only at hSw)
              first | (go_simp; done) | (go_simp; with_reducible rfl)
            try simp only [Act.put, List.setIfInBounds_toArray, List.set_cons_zero, List.set_cons_succ]
            refine wpAnyH_take (i := 6) (oi := ⟨some 26, _, _, _, _, _⟩) (v := ?vg6_12) rfl (by kernel_rfl) (by kernel_rfl) (by kernel_rfl) (fun _ _ _ h => h) (Or.inl ⟨by rfl, ?yg6_12⟩) hHeld ?rg6_12
            case yg6_12 =>
              intro wq hSw
              (try dsimp only at hSw)
              first | (go_simp; done) | (go_simp; with_reducible rfl)
            try simp only [Act.put, List.setIfInBounds_toArray, List.set_cons_zero, List.set_cons_succ]
            refine wpAnyH_ready (rs := [7]) (by kernel_rfl) (by simp) ?_
            refine AllReadyH.cons (o := ⟨some 5, _, _, _, _, _⟩) rfl (fun K hK => ?_) (AllReadyH.nil)
            go_simp
            have hbN : Below v_8.heap.size v_8 (v_8.alloc (.cells #[.int .i64 0, .int .i64 0, .slice none 0 0] 24)) := (Below.refl _ _).alloc (Nat.le_refl _) _
            have hx := heap_alloc_new v_8 (.cells #[.int .i64 0, .int .i64 0, .slice none 0 0] 24)
            have hz_14 : v_8.heap.size + 1 ≤ (v_8.alloc (.cells #[.int .i64 0, .int .i64 0, .slice none 0 0] 24)).heap.size ∧ (v_8.alloc (.cells #[.int .i64 0, .int .i64 0, .slice none 0 0] 24)).heap.size ≤ v_8.heap.size + 1 := by simp
            obtain ⟨v_13, hw⟩ : ∃ v_13, v_13 = v_8.alloc (.cells #[.int .i64 0, .int .i64 0, .slice none 0 0] 24) := ⟨_, rfl⟩
            rw [← hw] at hbN hx hz_14 ⊢
            clear hw
            have hHeld := hHeld.trans (hbN.mono hHeld.size)
            have hfN : Fr (fun _ => False) v_8 v_13 := Fr.of_below hbN
            clear hbN
            have mx_15 := Lib.hid (MxAt.mk (mx.out.sl.fr hfN (fun _ _ _ _ h => h)) mx.out.off)
            clear mx
            have fm_16 := Lib.hid (fm.out.fr hfN (fun h => h) (fun h => h))
            clear fm
            have bl_17 := Lib.hid hx
            clear hx
            refine hK.out _ _ hHeld (fun _ => ?_)
            clear hK K hfN
            try simp only [Act.put, List.setIfInBounds_toArray, List.set_cons_zero, List.set_cons_succ]
            refine wpAnyH_ready (rs := [8]) (by kernel_rfl) (by simp) ?_
            refine AllReadyH.cons (o := ⟨none, _, _, _, _, _⟩) rfl (fun K hK => ?_) (AllReadyH.nil)
            have q0 := box0_0 bl_17.out; have q1 := box0_1 bl_17.out; have q2 := box0_2 bl_17.out
            have u0 := box0_free bl_17.out 0; have u1 := box0_free bl_17.out 1; have u2 := box0_free bl_17.out 2
            go_simp
            have hx := box0_set (r := m.r) (c := m.c) (A := A) (n := m.l.length) (cp := cp) bl_17.out
            have hfN := box0_fr v_13 (v_8.heap.size) m.r m.c A m.l.length cp
            have hHeld := hHeld.trans (hfN.below hHeld.size (fun k hk => by have hk : k = v_8.heap.size := hk; omega) |> fun q => q)
            have hz_19 : v_13.heap.size ≤ (((v_13.setCell ⟨v_8.heap.size, 0, none⟩ (.int .i64 m.r)).setCell ⟨v_8.heap.size, 1, none⟩ (.int .i64 m.c)).setCell ⟨v_8.heap.size, 2, none⟩ (.slice A m.l.length cp)).heap.size ∧ (((v_13.setCell ⟨v_8.heap.size, 0, none⟩ (.int .i64 m.r)).setCell ⟨v_8.heap.size, 1, none⟩ (.int .i64 m.c)).setCell ⟨v_8.heap.size, 2, none⟩ (.slice A m.l.length cp)).heap.size ≤ v_13.heap.size := by simp
            obtain ⟨v_18, hw⟩ : ∃ v_18, v_18 = (((v_13.setCell ⟨v_8.heap.size, 0, none⟩ (.int .i64 m.r)).setCell ⟨v_8.heap.size, 1, none⟩ (.int .i64 m.c)).setCell ⟨v_8.heap.size, 2, none⟩ (.slice A m.l.length cp)) := ⟨_, rfl⟩
            rw [← hw] at hHeld hx hfN hz_19 ⊢
            clear hw q0 q1 q2 u0 u1 u2
            have mx_20 := Lib.hid (MxAt.mk (mx_15.out.sl.fr hfN (fun b' o hn hA hk => by have hk : b' = v_8.heap.size := hk; have := HA.out b' o hn hA; omega)) mx_15.out.off)
            clear mx_15
            have fm_21 := Lib.hid (fm_16.out.fr hfN (fun h => by have h : (v_1.heap.size + 1) = v_8.heap.size := h; omega) (fun h => by have h : v_1.heap.size = v_8.heap.size := h; omega))
            clear fm_16
            clear bl_17
            have bl_22 := Lib.hid hx
            clear hx
            refine hK.out _ _ hHeld (fun _ => ?_)
            clear hK K hfN
            try simp only [Act.put, List.setIfInBounds_toArray, List.set_cons_zero, List.set_cons_succ]
            refine wpAnyH_take (i := 9) (oi := ⟨some 6, _, _, _, _, _⟩) (v := ?vg9_23) rfl (by kernel_rfl) (by kernel_rfl) (by kernel_rfl) (fun _ _ _ h => h) (Or.inl ⟨by rfl, ?yg9_23⟩) hHeld ?rg9_23
            case yg9_23 =>
              intro wq hSw
              (try dsimp only at hSw)
              first | (go_simp; done) | (go_simp; with_reducible rfl)
            try simp only [Act.put, List.setIfInBounds_toArray, List.set_cons_zero, List.set_cons_succ]
            refine wpAnyH_done (by kernel_rfl) ?_ _
            go_wp2_with fail
            go_meet
            case rel => exact ⟨(v_1.heap.size + 1), v_1.heap.size, v_8.heap.size, m, A, cp, x, rfl, rfl, R1.out, ⟨⟨Hb2.out.trans (hHeld.mono Hb2.out.size), fm_21.out.fld, by omega⟩, fun v hv => by
                have hbw := Hb2.out.trans (hHeld.mono Hb2.out.size)
                rcases List.mem_cons.1 hv with rfl | hv
                · exact ⟨bl_22.out, mx_20.out, by show v_8.heap.size ≠ v_1.heap.size; omega⟩
                rcases List.mem_cons.1 hv with rfl | hv
                · exact MB.arg K1.out hbw (by omega) ((hHeld.block _ (by show w.heap.size < _; omega)).trans XA.out) (by show w.heap.size ≠ v_1.heap.size; omega)
                rcases List.mem_cons.1 hv with rfl | hv
                · exact MB.arg K2.out hbw (by omega) ((hHeld.block _ (by show w.heap.size + 1 < _; omega)).trans XB.out) (by show w.heap.size + 1 ≠ v_1.heap.size; omega)
                · cases hv⟩⟩
          · go_simp
            have hbN : Below v_5.heap.size v_5 (v_5.alloc (.cells #[.int .i64 0, .int .i64 0, .slice none 0 0] 24)) := (Below.refl _ _).alloc (Nat.le_refl _) _
            have hx := heap_alloc_new v_5 (.cells #[.int .i64 0, .int .i64 0, .slice none 0 0] 24)
            have hz_25 : v_5.heap.size + 1 ≤ (v_5.alloc (.cells #[.int .i64 0, .int .i64 0, .slice none 0 0] 24)).heap.size ∧ (v_5.alloc (.cells #[.int .i64 0, .int .i64 0, .slice none 0 0] 24)).heap.size ≤ v_5.heap.size + 1 := by simp
            obtain ⟨v_24, hw⟩ : ∃ v_24, v_24 = v_5.alloc (.cells #[.int .i64 0, .int .i64 0, .slice none 0 0] 24) := ⟨_, rfl⟩
            rw [← hw] at hbN hx hz_25 ⊢
            clear hw
            have hHeld := hHeld.trans (hbN.mono hHeld.size)
            have hfN : Fr (fun _ => False) v_5 v_24 := Fr.of_below hbN
            clear hbN
            have fl_26 := Lib.hid (fl.out.fr hfN (fun h => h) (fun h => h))
            clear fl
            have bl_27 := Lib.hid hx
            clear hx
            refine hK.out _ _ hHeld (fun _ => ?_)
            clear hK K hfN
            try simp only [Act.put, List.setIfInBounds_toArray, List.set_cons_zero, List.set_cons_succ]
            refine wpAnyH_ready (rs := [3]) (by kernel_rfl) (by simp) ?_
            refine AllReadyH.cons (o := ⟨some 24, _, _, _, _, _⟩) rfl (fun K hK => ?_) (AllReadyH.nil)
            go_simp
            have hh := mul_all (v_1.heap.size + 1) (v_1.heap.size) a b Pa Pb p1 p2 v_24 fl_26.out (argAt K1.out (Hb2.out.trans (hHeld.mono Hb2.out.size)) (by omega)) (argAt K2.out (Hb2.out.trans (hHeld.mono Hb2.out.size)) (by omega))
            refine hh.mono ?_; clear hh; rintro e v_29 ⟨⟨m, A, cp, x, rfl, hm, hR, hnew⟩, hf, hr⟩
            have hup := fun b o (hn : 0 < m.l.length) (hA : A = some ⟨b, o, none⟩) => hm.sl.lt (by decide) hn hA
            have mx := Lib.hid hm
            have fm := Lib.hid hf
            have R1 := Lib.hid hR
            have HA := Lib.hid (fun b o hn hA => And.intro (hnew b o hn hA) (hup b o hn hA))
            clear hm hf hR hnew hup
            have hfN : Fr (fun k => k = v_1.heap.size) v_24 v_29 := hr
            have hH2 : Below w2.heap.size w2 v_29 := hHeld.trans (hr.below hHeld.size (fun k hk => by have hk : k = v_1.heap.size := hk; omega))
            clear hr
            rw [M3.v]
            go_wp2_with fail
            have hHeld := hH2
            clear hH2
            have hz_30 := hfN.size
            have bl_31 := Lib.hid (hfN.row_some bl_27.out (fun h => by have h : v_5.heap.size = v_1.heap.size := h; omega))
            clear bl_27
            refine hK.out _ _ hHeld (fun _ => ?_)
            clear hK K hfN
            try simp only [Act.put, List.setIfInBounds_toArray, List.set_cons_zero, List.set_cons_succ]
            refine wpAnyH_take (i := 4) (oi := ⟨some 20, _, _, _, _, _⟩) (v := ?vg4_32) rfl (by kernel_rfl) (by kernel_rfl) (by kernel_rfl) (fun _ _ _ h => h) (Or.inl ⟨by rfl, ?yg4_32⟩) hHeld ?rg4_32
            case yg4_32 =>
              intro wq hSw
              (try dsimp only at hSw)
              first | (go_simp; done) | (go_simp; with_reducible rfl)
            try simp only [Act.put, List.setIfInBounds_toArray, List.set_cons_zero, List.set_cons_succ]
            refine wpAnyH_take (i := 5) (oi := ⟨some 25, _, _, _, _, _⟩) (v := ?vg5_33) rfl (by kernel_rfl) (by kernel_rfl) (by kernel_rfl) (fun _ _ _ h => h) (Or.inl ⟨by rfl, ?yg5_33⟩) hHeld ?rg5_33
            case yg5_33 =>
              intro wq hSw
              (try dsimp only at hSw)
              first | (go_simp; done) | (go_simp; with_reducible rfl)
            try simp only [Act.put, List.setIfInBounds_toArray, List.set_cons_zero, List.set_cons_succ]
            refine wpAnyH_take (i := 6) (oi := ⟨some 26, _, _, _, _, _⟩) (v := ?vg6_34) rfl (by kernel_rfl) (by kernel_rfl) (by kernel_rfl) (fun _ _ _ h => h) (Or.inl ⟨by rfl, ?yg6_34⟩) hHeld ?rg6_34
            case yg6_34 =>
              intro wq hSw
              (try dsimp only at hSw)
              first | (go_simp; done) | (go_simp; with_reducible rfl)
            try simp only [Act.put, List.setIfInBounds_toArray, List.set_cons_zero, List.set_cons_succ]
            refine wpAnyH_ready (rs := [8]) (by kernel_rfl) (by simp) ?_
            refine AllReadyH.cons (o := ⟨none, _, _, _, _, _⟩) rfl (fun K hK => ?_) (AllReadyH.nil)
            have q0 := box0_0 bl_31.out; have q1 := box0_1 bl_31.out; have q2 := box0_2 bl_31.out
            have u0 := box0_free bl_31.out 0; have u1 := box0_free bl_31.out 1; have u2 := box0_free bl_31.out 2
            go_simp
            have hx := box0_set (r := m.r) (c := m.c) (A := A) (n := m.l.length) (cp := cp) bl_31.out
            have hfN := box0_fr v_29 (v_5.heap.size) m.r m.c A m.l.length cp
            have hHeld := hHeld.trans (hfN.below hHeld.size (fun k hk => by have hk : k = v_5.heap.size := hk; omega) |> fun q => q)
            have hz_36 : v_29.heap.size ≤ (((v_29.setCell ⟨v_5.heap.size, 0, none⟩ (.int .i64 m.r)).setCell ⟨v_5.heap.size, 1, none⟩ (.int .i64 m.c)).setCell ⟨v_5.heap.size, 2, none⟩ (.slice A m.l.length cp)).heap.size ∧ (((v_29.setCell ⟨v_5.heap.size, 0, none⟩ (.int .i64 m.r)).setCell ⟨v_5.heap.size, 1, none⟩ (.int .i64 m.c)).setCell ⟨v_5.heap.size, 2, none⟩ (.slice A m.l.length cp)).heap.size ≤ v_29.heap.size := by simp
            obtain ⟨v_35, hw⟩ : ∃ v_35, v_35 = (((v_29.setCell ⟨v_5.heap.size, 0, none⟩ (.int .i64 m.r)).setCell ⟨v_5.heap.size, 1, none⟩ (.int .i64 m.c)).setCell ⟨v_5.heap.size, 2, none⟩ (.slice A m.l.length cp)) := ⟨_, rfl⟩
            rw [← hw] at hHeld hx hfN hz_36 ⊢
            clear hw q0 q1 q2 u0 u1 u2
            clear bl_31
            have mx_37 := Lib.hid (MxAt.mk (mx.out.sl.fr hfN (fun b' o hn hA hk => by have hk : b' = v_5.heap.size := hk; have := HA.out b' o hn hA; omega)) mx.out.off)
            clear mx
            have fm_38 := Lib.hid (fm.out.fr hfN (fun h => by have h : (v_1.heap.size + 1) = v_5.heap.size := h; omega) (fun h => by have h : v_1.heap.size = v_5.heap.size := h; omega))
            clear fm
            have bl_39 := Lib.hid hx
            clear hx
            refine hK.out _ _ hHeld (fun _ => ?_)
            clear hK K hfN
            try simp only [Act.put, List.setIfInBounds_toArray, List.set_cons_zero, List.set_cons_succ]
            refine wpAnyH_take (i := 9) (oi := ⟨some 6, _, _, _, _, _⟩) (v := ?vg9_40) rfl (by kernel_rfl) (by kernel_rfl) (by kernel_rfl) (fun _ _ _ h => h) (Or.inl ⟨by rfl, ?yg9_40⟩) hHeld ?rg9_40
            case yg9_40 =>
              intro wq hSw
              (try dsimp only at hSw)
              first | (go_simp; done) | (go_simp; with_reducible rfl)
            try simp only [Act.put, List.setIfInBounds_toArray, List.set_cons_zero, List.set_cons_succ]
            refine wpAnyH_done (by kernel_rfl) ?_ _
            go_wp2_with fail
            go_meet
            case rel => exact ⟨(v_1.heap.size + 1), v_1.heap.size, v_5.heap.size, m, A, cp, x, rfl, rfl, R1.out, ⟨⟨Hb2.out.trans (hHeld.mono Hb2.out.size), fm_38.out.fld, by omega⟩, fun v hv => by
                have hbw := Hb2.out.trans (hHeld.mono Hb2.out.size)
                rcases List.mem_cons.1 hv with rfl | hv
                · exact ⟨bl_39.out, mx_37.out, by show v_5.heap.size ≠ v_1.heap.size; omega⟩
                rcases List.mem_cons.1 hv with rfl | hv
                · exact MB.arg K1.out hbw (by omega) ((hHeld.block _ (by show w.heap.size < _; omega)).trans XA.out) (by show w.heap.size ≠ v_1.heap.size; omega)
                rcases List.mem_cons.1 hv with rfl | hv
                · exact MB.arg K2.out hbw (by omega) ((hHeld.block _ (by show w.heap.size + 1 < _; omega)).trans XB.out) (by show w.heap.size + 1 ≠ v_1.heap.size; omega)
                · cases hv⟩⟩
        · go_simp
          have hbN : Below v_1.heap.size v_1 (v_1.alloc (.cells #[.int .i64 0, .int .i64 0, .slice none 0 0] 24)) := (Below.refl _ _).alloc (Nat.le_refl _) _
          have hx := heap_alloc_new v_1 (.cells #[.int .i64 0, .int .i64 0, .slice none 0 0] 24)
          have hz_42 : v_1.heap.size + 1 ≤ (v_1.alloc (.cells #[.int .i64 0, .int .i64 0, .slice none 0 0] 24)).heap.size ∧ (v_1.alloc (.cells #[.int .i64 0, .int .i64 0, .slice none 0 0] 24)).heap.size ≤ v_1.heap.size + 1 := by simp
          obtain ⟨v_41, hw⟩ : ∃ v_41, v_41 = v_1.alloc (.cells #[.int .i64 0, .int .i64 0, .slice none 0 0] 24) := ⟨_, rfl⟩
          rw [← hw] at hbN hx hz_42 ⊢
          clear hw
          have hHeld := hHeld.trans (hbN.mono hHeld.size)
          have hfN : Fr (fun _ => False) v_1 v_41 := Fr.of_below hbN
          clear hbN
          have bl_43 := Lib.hid hx
          clear hx
          refine hK.out _ _ hHeld (fun _ => ?_)
          clear hK K hfN
          try simp only [Act.put, List.setIfInBounds_toArray, List.set_cons_zero, List.set_cons_succ]
          refine wpAnyH_ready (rs := [0]) (by kernel_rfl) (by simp) ?_
          refine AllReadyH.cons (o := ⟨some 21, _, _, _, _, _⟩) rfl (fun K hK => ?_) (AllReadyH.nil)
          go_simp
          refine (new_any v_41).mono ?_; rintro e v_45 ⟨rfl, hf, hb⟩
          have fl := Lib.hid hf
          have hlt := hf.ltF
          clear hf
          have hfN : Fr (fun _ => False) v_41 v_45 := Fr.of_below hb
          have hH2 : Below w2.heap.size w2 v_45 := hHeld.trans (hb.mono hHeld.size)
          clear hb
          go_wp2_with fail
          have hHeld := hH2
          clear hH2
          have hz_46 := hfN.size
          have bl_47 := Lib.hid (hfN.row_some bl_43.out (fun h => h))
          clear bl_43
          refine hK.out _ _ hHeld (fun _ => ?_)
          clear hK K hfN
          try simp only [Act.put, List.setIfInBounds_toArray, List.set_cons_zero, List.set_cons_succ]
          refine wpAnyH_ready (rs := [3]) (by kernel_rfl) (by simp) ?_
          refine AllReadyH.cons (o := ⟨some 24, _, _, _, _, _⟩) rfl (fun K hK => ?_) (AllReadyH.nil)
          go_simp
          have hh := mul_all (v_41.heap.size + 1) (v_41.heap.size) a b Pa Pb p1 p2 v_45 fl.out (argAt K1.out (Hb2.out.trans (hHeld.mono Hb2.out.size)) (by omega)) (argAt K2.out (Hb2.out.trans (hHeld.mono Hb2.out.size)) (by omega))
          refine hh.mono ?_; clear hh; rintro e v_49 ⟨⟨m, A, cp, x, rfl, hm, hR, hnew⟩, hf, hr⟩
          have hup := fun b o (hn : 0 < m.l.length) (hA : A = some ⟨b, o, none⟩) => hm.sl.lt (by decide) hn hA
          have mx := Lib.hid hm
          have fm := Lib.hid hf
          have R1 := Lib.hid hR
          have HA := Lib.hid (fun b o hn hA => And.intro (hnew b o hn hA) (hup b o hn hA))
          clear hm hf hR hnew hup
          have hfN : Fr (fun k => k = v_41.heap.size) v_45 v_49 := hr
          have hH2 : Below w2.heap.size w2 v_49 := hHeld.trans (hr.below hHeld.size (fun k hk => by have hk : k = v_41.heap.size := hk; omega))
          clear hr
          rw [M3.v]
          go_wp2_with fail
          have hHeld := hH2
          clear hH2
          have hz_50 := hfN.size
          have bl_51 := Lib.hid (hfN.row_some bl_47.out (fun h => by have h : v_1.heap.size = v_41.heap.size := h; omega))
          clear bl_47
          refine hK.out _ _ hHeld (fun _ => ?_)
          clear hK K hfN
          try simp only [Act.put, List.setIfInBounds_toArray, List.set_cons_zero, List.set_cons_succ]
          refine wpAnyH_take (i := 4) (oi := ⟨some 20, _, _, _, _, _⟩) (v := ?vg4_52) rfl (by kernel_rfl) (by kernel_rfl) (by kernel_rfl) (fun _ _ _ h => h) (Or.inl ⟨by rfl, ?yg4_52⟩) hHeld ?rg4_52
          case yg4_52 =>
            intro wq hSw
            (try dsimp only at hSw)
            first | (go_simp; done) | (go_simp; with_reducible rfl)
          try simp only [Act.put, List.setIfInBounds_toArray, List.set_cons_zero, List.set_cons_succ]
          refine wpAnyH_take (i := 5) (oi := ⟨some 25, _, _, _, _, _⟩) (v := ?vg5_53) rfl (by kernel_rfl) (by kernel_rfl) (by kernel_rfl) (fun _ _ _ h => h) (Or.inl ⟨by rfl, ?yg5_53⟩) hHeld ?rg5_53
          case yg5_53 =>
            intro wq hSw
            (try dsimp only at hSw)
            first | (go_simp; done) | (go_simp; with_reducible rfl)
          try simp only [Act.put, List.setIfInBounds_toArray, List.set_cons_zero, List.set_cons_succ]
          refine wpAnyH_take (i := 6) (oi := ⟨some 26, _, _, _, _, _⟩) (v := ?vg6_54) rfl (by kernel_rfl) (by kernel_rfl) (by kernel_rfl) (fun _ _ _ h => h) (Or.inl ⟨by rfl, ?yg6_54⟩) hHeld ?rg6_54
          case yg6_54 =>
            intro wq hSw
            (try dsimp only at hSw)
            first | (go_simp; done) | (go_simp; with_reducible rfl)
          try simp only [Act.put, List.setIfInBounds_toArray, List.set_cons_zero, List.set_cons_succ]
          refine wpAnyH_ready (rs := [8]) (by kernel_rfl) (by simp) ?_
          refine AllReadyH.cons (o := ⟨none, _, _, _, _, _⟩) rfl (fun K hK => ?_) (AllReadyH.nil)
          have q0 := box0_0 bl_51.out; have q1 := box0_1 bl_51.out; have q2 := box0_2 bl_51.out
          have u0 := box0_free bl_51.out 0; have u1 := box0_free bl_51.out 1; have u2 := box0_free bl_51.out 2
          go_simp
          have hx := box0_set (r := m.r) (c := m.c) (A := A) (n := m.l.length) (cp := cp) bl_51.out
          have hfN := box0_fr v_49 (v_1.heap.size) m.r m.c A m.l.length cp
          have hHeld := hHeld.trans (hfN.below hHeld.size (fun k hk => by have hk : k = v_1.heap.size := hk; omega) |> fun q => q)
          have hz_56 : v_49.heap.size ≤ (((v_49.setCell ⟨v_1.heap.size, 0, none⟩ (.int .i64 m.r)).setCell ⟨v_1.heap.size, 1, none⟩ (.int .i64 m.c)).setCell ⟨v_1.heap.size, 2, none⟩ (.slice A m.l.length cp)).heap.size ∧ (((v_49.setCell ⟨v_1.heap.size, 0, none⟩ (.int .i64 m.r)).setCell ⟨v_1.heap.size, 1, none⟩ (.int .i64 m.c)).setCell ⟨v_1.heap.size, 2, none⟩ (.slice A m.l.length cp)).heap.size ≤ v_49.heap.size := by simp
          obtain ⟨v_55, hw⟩ : ∃ v_55, v_55 = (((v_49.setCell ⟨v_1.heap.size, 0, none⟩ (.int .i64 m.r)).setCell ⟨v_1.heap.size, 1, none⟩ (.int .i64 m.c)).setCell ⟨v_1.heap.size, 2, none⟩ (.slice A m.l.length cp)) := ⟨_, rfl⟩
          rw [← hw] at hHeld hx hfN hz_56 ⊢
          clear hw q0 q1 q2 u0 u1 u2
          clear bl_51
          have mx_57 := Lib.hid (MxAt.mk (mx.out.sl.fr hfN (fun b' o hn hA hk => by have hk : b' = v_1.heap.size := hk; have := HA.out b' o hn hA; omega)) mx.out.off)
          clear mx
          have fm_58 := Lib.hid (fm.out.fr hfN (fun h => by have h : (v_41.heap.size + 1) = v_1.heap.size := h; omega) (fun h => by have h : v_41.heap.size = v_1.heap.size := h; omega))
          clear fm
          have bl_59 := Lib.hid hx
          clear hx
          refine hK.out _ _ hHeld (fun _ => ?_)
          clear hK K hfN
          try simp only [Act.put, List.setIfInBounds_toArray, List.set_cons_zero, List.set_cons_succ]
          refine wpAnyH_take (i := 9) (oi := ⟨some 6, _, _, _, _, _⟩) (v := ?vg9_60) rfl (by kernel_rfl) (by kernel_rfl) (by kernel_rfl) (fun _ _ _ h => h) (Or.inl ⟨by rfl, ?yg9_60⟩) hHeld ?rg9_60
          case yg9_60 =>
            intro wq hSw
            (try dsimp only at hSw)
            first | (go_simp; done) | (go_simp; with_reducible rfl)
          try simp only [Act.put, List.setIfInBounds_toArray, List.set_cons_zero, List.set_cons_succ]
          refine wpAnyH_done (by kernel_rfl) ?_ _
          go_wp2_with fail
          go_meet
          case rel => exact ⟨(v_41.heap.size + 1), v_41.heap.size, v_1.heap.size, m, A, cp, x, rfl, rfl, R1.out, ⟨⟨Hb2.out.trans (hHeld.mono Hb2.out.size), fm_58.out.fld, by omega⟩, fun v hv => by
              have hbw := Hb2.out.trans (hHeld.mono Hb2.out.size)
              rcases List.mem_cons.1 hv with rfl | hv
              · exact ⟨bl_59.out, mx_57.out, by show v_1.heap.size ≠ v_41.heap.size; omega⟩
              rcases List.mem_cons.1 hv with rfl | hv
              · exact MB.arg K1.out hbw (by omega) ((hHeld.block _ (by show w.heap.size < _; omega)).trans XA.out) (by show w.heap.size ≠ v_41.heap.size; omega)
              rcases List.mem_cons.1 hv with rfl | hv
              · exact MB.arg K2.out hbw (by omega) ((hHeld.block _ (by show w.heap.size + 1 < _; omega)).trans XB.out) (by show w.heap.size + 1 ≠ v_41.heap.size; omega)
              · cases hv⟩⟩
      case rest =>
        obtain ⟨F, T, g, m, A, cp, x, rfl, rfl, hR1, hS⟩ := hcut
        have R1 := Lib.hid hR1; clear hR1
        have S0 := Lib.hid hS; clear hS ax0 ax1 ax2 bx0 bx1 bx2
        have q11_0 : (wc).cell? ⟨w.heap.size, 0, none⟩ = some (.int .i64 a.r) := S0.out.c0 (v := ⟨w.heap.size, a, Pa, p1⟩) (List.mem_iff_getElem?.2 ⟨1, rfl⟩)
        have q11_1 : (wc).cell? ⟨w.heap.size, 1, none⟩ = some (.int .i64 a.c) := S0.out.c1 (v := ⟨w.heap.size, a, Pa, p1⟩) (List.mem_iff_getElem?.2 ⟨1, rfl⟩)
        have q11_2 : (wc).cell? ⟨w.heap.size, 2, none⟩ = some (.slice Pa a.l.length p1) := S0.out.c2 (v := ⟨w.heap.size, a, Pa, p1⟩) (List.mem_iff_getElem?.2 ⟨1, rfl⟩)
        have q12_0 : (wc).cell? ⟨(w.heap.size + 1), 0, none⟩ = some (.int .i64 b.r) := S0.out.c0 (v := ⟨(w.heap.size + 1), b, Pb, p2⟩) (List.mem_iff_getElem?.2 ⟨2, rfl⟩)
        have q12_1 : (wc).cell? ⟨(w.heap.size + 1), 1, none⟩ = some (.int .i64 b.c) := S0.out.c1 (v := ⟨(w.heap.size + 1), b, Pb, p2⟩) (List.mem_iff_getElem?.2 ⟨2, rfl⟩)
        have q12_2 : (wc).cell? ⟨(w.heap.size + 1), 2, none⟩ = some (.slice Pb b.l.length p2) := S0.out.c2 (v := ⟨(w.heap.size + 1), b, Pb, p2⟩) (List.mem_iff_getElem?.2 ⟨2, rfl⟩)
        go_wp2_with fail
        have hT13 := S0.out.inn.fld.ltT
        have hh := rmm_all a b Pa Pb p1 p2 (wc) (S0.out.vars ⟨w.heap.size, a, Pa, p1⟩ (List.mem_iff_getElem?.2 ⟨1, rfl⟩)).mx.sl (S0.out.vars ⟨(w.heap.size + 1), b, Pb, p2⟩ (List.mem_iff_getElem?.2 ⟨2, rfl⟩)).mx.sl
        refine hh.mono ?_; clear hh; rintro e w13 ⟨⟨m13, A13, cp13, x13, rfl, hg, hR⟩, hb⟩
        have R2 := Lib.hid hR; clear hR
        have S13 := Lib.hid ((S0.out.later hb).add m13 A13 cp13 (hg.at_ hT13))
        clear q11_0 q11_1 q11_2 q12_0 q12_1 q12_2
        clear hg hb S0
        rw [M3.v]
        obtain ⟨ho, hx⟩ := R1.out.one R2.out
        subst hx
        have Ho := Lib.hid ho; clear ho
        have q14_0 : (w13.alloc (.cells #[.int .i64 m13.r, .int .i64 m13.c, .slice A13 m13.l.length cp13] 24)).cell? ⟨w.heap.size, 0, none⟩ = some (.int .i64 a.r) := S13.out.c0 (v := ⟨w.heap.size, a, Pa, p1⟩) (List.mem_iff_getElem?.2 ⟨2, rfl⟩)
        have q14_1 : (w13.alloc (.cells #[.int .i64 m13.r, .int .i64 m13.c, .slice A13 m13.l.length cp13] 24)).cell? ⟨w.heap.size, 1, none⟩ = some (.int .i64 a.c) := S13.out.c1 (v := ⟨w.heap.size, a, Pa, p1⟩) (List.mem_iff_getElem?.2 ⟨2, rfl⟩)
        have q14_2 : (w13.alloc (.cells #[.int .i64 m13.r, .int .i64 m13.c, .slice A13 m13.l.length cp13] 24)).cell? ⟨w.heap.size, 2, none⟩ = some (.slice Pa a.l.length p1) := S13.out.c2 (v := ⟨w.heap.size, a, Pa, p1⟩) (List.mem_iff_getElem?.2 ⟨2, rfl⟩)
        have q15_0 : (w13.alloc (.cells #[.int .i64 m13.r, .int .i64 m13.c, .slice A13 m13.l.length cp13] 24)).cell? ⟨(w.heap.size + 1), 0, none⟩ = some (.int .i64 b.r) := S13.out.c0 (v := ⟨(w.heap.size + 1), b, Pb, p2⟩) (List.mem_iff_getElem?.2 ⟨3, rfl⟩)
        have q15_1 : (w13.alloc (.cells #[.int .i64 m13.r, .int .i64 m13.c, .slice A13 m13.l.length cp13] 24)).cell? ⟨(w.heap.size + 1), 1, none⟩ = some (.int .i64 b.c) := S13.out.c1 (v := ⟨(w.heap.size + 1), b, Pb, p2⟩) (List.mem_iff_getElem?.2 ⟨3, rfl⟩)
        have q15_2 : (w13.alloc (.cells #[.int .i64 m13.r, .int .i64 m13.c, .slice A13 m13.l.length cp13] 24)).cell? ⟨(w.heap.size + 1), 2, none⟩ = some (.slice Pb b.l.length p2) := S13.out.c2 (v := ⟨(w.heap.size + 1), b, Pb, p2⟩) (List.mem_iff_getElem?.2 ⟨3, rfl⟩)
        go_wp2_with fail
        have hh := mul_nil a.r a.c Pa a.l.length p1 b.r b.c Pb b.l.length p2 (w13.alloc (.cells #[.int .i64 m13.r, .int .i64 m13.c, .slice A13 m13.l.length cp13] 24))
        refine hh.mono ?_; clear hh; rintro e w90 ⟨rfl, hb⟩
        have S90 := Lib.hid ((S13.out.later hb).later ((Below.refl _ _).alloc (Nat.le_refl _) (boxM 0 0 none 0 0)))
        clear q14_0 q14_1 q14_2 q15_0 q15_1 q15_2
        clear hb S13
        rw [NoMx]
        have q16_0 : (w90.alloc (.cells #[.int .i64 0, .int .i64 0, .slice none 0 0] 24)).cell? ⟨g, 0, none⟩ = some (.int .i64 m.r) := S90.out.c0 (v := ⟨g, m, A, cp⟩) (List.mem_iff_getElem?.2 ⟨1, rfl⟩)
        have q16_1 : (w90.alloc (.cells #[.int .i64 0, .int .i64 0, .slice none 0 0] 24)).cell? ⟨g, 1, none⟩ = some (.int .i64 m.c) := S90.out.c1 (v := ⟨g, m, A, cp⟩) (List.mem_iff_getElem?.2 ⟨1, rfl⟩)
        have q16_2 : (w90.alloc (.cells #[.int .i64 0, .int .i64 0, .slice none 0 0] 24)).cell? ⟨g, 2, none⟩ = some (.slice A m.l.length cp) := S90.out.c2 (v := ⟨g, m, A, cp⟩) (List.mem_iff_getElem?.2 ⟨1, rfl⟩)
        have q17_0 : (w90.alloc (.cells #[.int .i64 0, .int .i64 0, .slice none 0 0] 24)).cell? ⟨w13.heap.size, 0, none⟩ = some (.int .i64 m13.r) := S90.out.c0 (v := ⟨w13.heap.size, m13, A13, cp13⟩) (List.mem_iff_getElem?.2 ⟨0, rfl⟩)
        have q17_1 : (w90.alloc (.cells #[.int .i64 0, .int .i64 0, .slice none 0 0] 24)).cell? ⟨w13.heap.size, 1, none⟩ = some (.int .i64 m13.c) := S90.out.c1 (v := ⟨w13.heap.size, m13, A13, cp13⟩) (List.mem_iff_getElem?.2 ⟨0, rfl⟩)
        have q17_2 : (w90.alloc (.cells #[.int .i64 0, .int .i64 0, .slice none 0 0] 24)).cell? ⟨w13.heap.size, 2, none⟩ = some (.slice A13 m13.l.length cp13) := S90.out.c2 (v := ⟨w13.heap.size, m13, A13, cp13⟩) (List.mem_iff_getElem?.2 ⟨0, rfl⟩)
        go_wp2_with fail
        have hh := same_yes m m13 A A13 cp cp13 (w90.alloc (.cells #[.int .i64 0, .int .i64 0, .slice none 0 0] 24)) (S90.out.vars ⟨g, m, A, cp⟩ (List.mem_iff_getElem?.2 ⟨1, rfl⟩)).mx.sl (S90.out.vars ⟨w13.heap.size, m13, A13, cp13⟩ (List.mem_iff_getElem?.2 ⟨0, rfl⟩)).mx.sl Ho.out
        refine hh.mono ?_; clear hh; rintro e w18 ⟨rfl, hb⟩
        have S18 := Lib.hid (S90.out.later hb)
        clear q16_0 q16_1 q16_2 q17_0 q17_1 q17_2
        clear hb S90
        go_wp2_with fail
        refine (stands_any _).mono ?_; rintro e w19 ⟨rfl, hb⟩
        have hend := Lib.hid (S18.out.later hb).inn.below; clear hb
        go_wp2_with fail
        go_ret
        exact ⟨rfl, hend.out⟩
    · go_enter Try.func4, Try.ntmps4
      go_wp2_with fail
      have hh := few_any a.r a.c Pa a.l.length p1 ((w.alloc (a.box Pa p1)).alloc (b.box Pb p2))
      rw [decide_eq_true ha] at hh
      refine hh.mono ?_; clear hh; rintro e w1 ⟨rfl, hb1⟩
      have xb := (hb1.block _ (block_lt Xb.out)).trans Xb.out
      have b0 := boxM_0 xb; have b1 := boxM_1 xb; have b2 := boxM_2 xb
      go_wp2_with fail
      have hh := few_any b.r b.c Pb b.l.length p2 w1
      rw [decide_eq_false hb] at hh
      refine hh.mono ?_; clear hh; rintro e w2 ⟨rfl, hb2⟩
      clear b0 b1 b2 xb
      go_wp2_with fail
      refine (stands_any _).mono ?_; rintro e w3 ⟨rfl, hb3⟩
      go_wp2_with fail
      go_ret
      exact ⟨rfl, ((Hb0.out.trans (hb1.mono Hb0.out.size)).trans (hb2.mono (Nat.le_trans Hb0.out.size hb1.size))).trans (hb3.mono (Nat.le_trans (Nat.le_trans Hb0.out.size hb1.size) hb2.size))⟩
  · go_enter Try.func4, Try.ntmps4
    go_wp2_with fail
    have hh := few_any a.r a.c Pa a.l.length p1 ((w.alloc (a.box Pa p1)).alloc (b.box Pb p2))
    rw [decide_eq_false ha] at hh
    refine hh.mono ?_; clear hh; rintro e w1 ⟨rfl, hb1⟩
    go_wp2_with fail
    refine (stands_any _).mono ?_; rintro e w3 ⟨rfl, hb3⟩
    go_wp2_with fail
    go_ret
    exact ⟨rfl, (Hb0.out.trans (hb1.mono Hb0.out.size)).trans (hb3.mono (Nat.le_trans Hb0.out.size hb1.size))⟩
end Go.Proofs.Ytccnoflgbopjlaa

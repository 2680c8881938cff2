/-
  The contract of the document's Update of layer 7. No condition but bounds. (Written by gen_dnc.py.)
-/
import Derived.Test.YtjacdabhlnfbkaaDnb
import Derived.Test.YtjacdabhlnfbkaaCcf
namespace Go.Proofs.Ytjacdabhlnfbkaa
open Go.RowKit Go.Proofs
set_option linter.unusedVariables false

/-- May parity go with this change? -/
def UpdOk (k m : Nat) (j : Int) (old now : List UInt8) (par : List (List UInt8)) : Prop := (0 ≤ j ∧ j < (k : Int)) ∧ old.length = now.length ∧ par.length = m ∧ ∀ i, i < m → (par.getD i []).length = old.length

set_option maxRecDepth 20000 in
set_option maxHeartbeats 3200000 in
theorem rupdate_any (k m : Nat) (j : Int) (A0 : Option Addr) (L0 c0 : Nat) (old : List UInt8) (A1 : Option Addr) (L1 c1 : Nat) (now : List UInt8) (A : Option Addr) (n c : Nat) (par : List (List UInt8)) (w : World) (h3 : k + m ≤ 255)
    (hs0 : Sl w 1 A0 L0 c0 (cells old)) (hs1 : Sl w 1 A1 L1 c1 (cells now)) (hp : Gr w A n c par) (hL0 : L0 ≤ 1048576) (hn : n ≤ 1048576) :
    Calls Try.prog 15 #[.int .i64 (k : Int), .int .i64 (m : Int), .int .i64 j, .slice A0 L0 c0, .slice A1 L1 c1, .slice A n c] w fun e w' =>
      ((¬ UpdOk k m j old now par ∧ e = .returned (.tuple #[.slice none 0 0, .int .i64 2])) ∨
        (UpdOk k m j old now par ∧ ∃ A' c', e = .returned (.tuple #[.slice A' m c', .int .i64 0]) ∧ Gr w' A' m c' (updL k j.toNat old now par m))) ∧ Below w.heap.size w w' := by
  have hl0 := hs0.len
  have hl1 := hs1.len
  rw [cells_length, Nat.mul_one] at hl0 hl1
  have hlim1 := hs1.lim
  unfold maxLen at hlim1
  have hln := hp.len
  have HS0 := Lib.hid hs0
  have HS1 := Lib.hid hs1
  have HP := Lib.hid hp
  have HL0 := Lib.hid hl0
  have HL1 := Lib.hid hl1
  have HLn := Lib.hid hln
  clear hs0 hs1 hp hl0 hl1 hln
  by_cases hj : 0 ≤ j ∧ j < (k : Int)
  · obtain ⟨J, rfl⟩ : ∃ J : Nat, j = (J : Int) := ⟨j.toNat, by omega⟩
    have hj' : J < k := by omega
    clear hj
    by_cases hll : L0 = L1
    · subst hll
      have h00 : ((L0 : Int) != (L0 : Int)) = false := by simp
      by_cases hnm : n = m
      · subst hnm
        have hnn : ((n : Int) != (n : Int)) = false := by simp
        rw [Int.toNat_natCast]
        go_enter Try.func15, Try.ntmps15
        go_wp2_with fail
        refine (sum7_any A0 L0 c0 old A1 L0 c1 now w HS0.out HS1.out hL0).mono ?_; rintro e w1 ⟨As, ns, cs, rfl, hss, hb1, hms⟩
        clear hms
        have Hss := Lib.hid hss
        have Hb1 := Lib.hid hb1
        have hns : ns ≤ L0 := by
          have h8 := HL0.out
          have := hss.len
          rw [cells_length, addL_len] at this
          omega
        clear hss hb1
        go_wp2_with fail
        refine (rspread_yes k n J As ns cs (addL old now) w1 hj' h3 Hss.out (by omega)).mono ?_; rintro e w2 ⟨⟨Ax, cx, rfl, hgx⟩, hb2⟩
        have Hgx := Lib.hid hgx
        have Hb2 := Lib.hid (Hb1.out.trans (hb2.mono Hb1.out.size))
        clear hgx hb2
        go_wp2_with fail
        have hszw2 := Hb2.out.size
        go_loopw [16, 17] (fun v iv wr => ∃ (i : Nat) (A' : Option Addr) (c' : Nat), i ≤ n ∧ iv = .int .i64 (i : Int) ∧ v = .slice A' i c' ∧ Gg wr w2.heap.size A' i c' (updL k J old now par i) ∧ (∀ a, a < i → (par.getD a []).length = L0) ∧ Below w2.heap.size w2 wr) (fun _ iv _ => n - (intOf iv).toNat)
        case atStart => exact ⟨0, none, 0, by omega, rfl, rfl, Gg.nil _ _, fun a ha => absurd ha (by omega), Below.refl _ _⟩
        case round =>
          obtain ⟨i, A', c', hi, rfl, rfl, hG, hall, hb⟩ := hrel
          have HG := Lib.hid hG
          have Hall := Lib.hid hall
          have Hb := Lib.hid hb
          have hszr := hb.size
          clear hG hall hb
          by_cases hlt : i < n
          · have hlti : (i : Int) < (n : Int) := by omega
            have hP2 := HP.out.later Hb2.out
            obtain ⟨b1, o1, rfl, hc1⟩ := (hP2.later Hb.out).at_ (by omega)
            obtain ⟨Ar, cr, q1, sr⟩ := hc1 i _ (HP.out.get hlt)
            have sr2 : Sl w2 1 Ar (par.getD i []).length cr (cells (par.getD i [])) := by
              obtain ⟨b1', o1', e1', hc1'⟩ := hP2.at_ (by omega)
              injection e1' with e1'
              injection e1' with e1a e1b
              subst e1a; subst e1b
              obtain ⟨Ar', cr', q1', sr'⟩ := hc1' i _ (HP.out.get hlt)
              have h9 := (Hb.out.cell (World.block_lt_of_cell? _ _ q1')).trans q1'
              rw [q1] at h9
              injection h9 with h9
              injection h9 with h9a h9b h9c
              subst h9a; subst h9c
              exact sr'
            have hlb1 : b1 < w2.heap.size := by
              have := World.block_lt_of_cell? _ _ q1
              obtain ⟨b1', o1', e1', hc1'⟩ := hP2.at_ (by omega)
              injection e1' with e1'
              injection e1' with e1a e1b
              obtain ⟨Ar', cr', q1', sr'⟩ := hc1' i _ (HP.out.get hlt)
              have h7 : b1' < w2.heap.size := World.block_lt_of_cell? _ _ q1'
              omega
            clear sr hc1 hP2
            obtain ⟨r, hr⟩ : ∃ r, r = par.getD i [] := ⟨_, rfl⟩
            rw [← hr] at q1 sr2
            obtain ⟨Lr, hLr⟩ : ∃ L, L = r.length := ⟨_, rfl⟩
            rw [← hLr] at q1 sr2
            have hlimr := sr2.lim
            unfold maxLen at hlimr
            have Hr := Lib.hid hr
            have HLr := Lib.hid hLr
            have SR := Lib.hid sr2
            clear hr hLr sr2
            by_cases heq : Lr = L0
            · subst heq
              have hrr : ((Lr : Int) != (Lr : Int)) = false := by simp
              have hki : k + i < k + n := by omega
              obtain ⟨b2, o2, rfl, hc2⟩ := (Hgx.out.later Hb.out).at_ (by omega)
              obtain ⟨Ad, cd, q2, sd⟩ := hc2 (k + i) _ (Hgx.out.get hki)
              have hlb2 : b2 < w2.heap.size ∧ Sl w2 1 Ad ((spreadL k J (addL old now) (k + n)).getD (k + i) []).length cd (cells ((spreadL k J (addL old now) (k + n)).getD (k + i) [])) := by
                obtain ⟨b1', o1', e1', hc1'⟩ := Hgx.out.at_ (by omega)
                injection e1' with e1'
                injection e1' with e1a e1b
                subst e1a; subst e1b
                obtain ⟨Ar', cr', q1', sr'⟩ := hc1' (k + i) _ (Hgx.out.get hki)
                have h9 := (Hb.out.cell (World.block_lt_of_cell? _ _ q1')).trans q1'
                rw [q2] at h9
                injection h9 with h9
                injection h9 with h9a h9b h9c
                subst h9a; subst h9c
                exact ⟨World.block_lt_of_cell? _ _ q1', sr'⟩
              obtain ⟨hlb2, sd2⟩ := hlb2
              rw [spreadL_getD _ _ _ _ _ hki] at q2 sd2
              obtain ⟨ld, hld⟩ : ∃ l, l = ((addL old now).map (gm (facB k (k + i) J))).length := ⟨_, rfl⟩
              rw [← hld] at q2 sd2
              have SD := Lib.hid sd2
              have X1 := Lib.hid q1
              obtain ⟨z, hz⟩ : ∃ z, z = k + i := ⟨_, rfl⟩
              rw [← hz] at q2
              have hkw : IntKind.i64.wrap ((k : Int) + (i : Int)) = (z : Int) := by rw [IntKind.wrap_i64, hz]; omega
              have hkii : (z : Int) < (k : Int) + (n : Int) := by omega
              have X2 := Lib.hid q2
              clear hz q2
              clear hc2 sd sd2 hld
              go_upto_region 10 with (fail)
              have HG0 := Lib.hid (HG.out.later (Below.drew (Below.refl _ _)))
              refine wp_region_held_drew (S := fun w' => Fr (fun k => w2.heap.size ≤ k) wr w') (by kernel_rfl) (Fr.drew (Fr.refl _ _)) (fun hHeld => ?_)
              clear hHeld
              have hHeld : Fr (fun k => w2.heap.size ≤ k) wr wr.drew := Fr.drew (Fr.refl _ _)
              have hz_0 : wr.heap.size ≤ wr.drew.heap.size := Nat.le_refl _
              obtain ⟨v_1, hw⟩ : ∃ v_1, v_1 = wr.drew := ⟨_, rfl⟩
              rw [← hw] at hHeld hz_0 HG0 ⊢
              clear hw
              refine wpAnyH_take (i := 0) (oi := ⟨some 56, _, _, _, _, _⟩) (v := ?vg0_2) rfl (by kernel_rfl) (by kernel_rfl) (by kernel_rfl) (fun _ _ _ h => h) (Or.inl ⟨by rfl, ?yg0_2⟩) hHeld ?rg0_2
              case yg0_2 =>
                intro wq hSw
                (try dsimp only at hSw)
                first | (go_simp; done) | (go_simp; with_reducible rfl)
              try simp only [Act.put, List.setIfInBounds_toArray, List.set_cons_zero, List.set_cons_succ]
              refine wpAnyH_take (i := 1) (oi := ⟨some 57, _, _, _, _, _⟩) (v := ?vg1_3) rfl (by kernel_rfl) (by kernel_rfl) (by kernel_rfl) (fun _ _ _ h => h) (Or.inl ⟨by rfl, ?yg1_3⟩) hHeld ?rg1_3
              case yg1_3 =>
                intro wq hSw
                (try dsimp only at hSw)
                first | (go_simp; done) | (go_simp; with_reducible rfl)
              try simp only [Act.put, List.setIfInBounds_toArray, List.set_cons_zero, List.set_cons_succ]
              refine wpAnyH_take (i := 2) (oi := ⟨some 58, _, _, _, _, _⟩) (v := ?vg2_4) rfl (by kernel_rfl) (by kernel_rfl) (by kernel_rfl) (fun _ _ _ h => h) (Or.inl ⟨by rfl, ?yg2_4⟩) hHeld ?rg2_4
              case yg2_4 =>
                intro wq hSw
                (try dsimp only at hSw)
                first | (go_simp; done) | (go_simp; with_reducible rfl)
              try simp only [Act.put, List.setIfInBounds_toArray, List.set_cons_zero, List.set_cons_succ]
              refine wpAnyH_take (i := 3) (oi := ⟨some 59, _, _, _, _, _⟩) (v := ?vg3_5) rfl (by kernel_rfl) (by kernel_rfl) (by kernel_rfl) (fun _ _ _ h => h) (Or.inl ⟨by rfl, ?yg3_5⟩) hHeld ?rg3_5
              case yg3_5 =>
                intro wq hSw
                (try dsimp only at hSw)
                first | (go_simp; done) | (go_simp; with_reducible rfl)
              try simp only [Act.put, List.setIfInBounds_toArray, List.set_cons_zero, List.set_cons_succ]
              refine wpAnyH_take (i := 4) (oi := ⟨some 60, _, _, _, _, _⟩) (v := ?vg4_6) rfl (by kernel_rfl) (by kernel_rfl) (by kernel_rfl) (fun _ _ _ h => h) (Or.inl ⟨by rfl, ?yg4_6⟩) hHeld ?rg4_6
              case yg4_6 =>
                intro wq hSw
                (try dsimp only at hSw)
                have q0 := hSw.cell_some X1.out (by show ¬ w2.heap.size ≤ b1; omega)
                first | (go_simp; done) | (go_simp; with_reducible rfl)
              try simp only [Act.put, List.setIfInBounds_toArray, List.set_cons_zero, List.set_cons_succ]
              refine wpAnyH_take (i := 5) (oi := ⟨some 61, _, _, _, _, _⟩) (v := ?vg5_7) rfl (by kernel_rfl) (by kernel_rfl) (by kernel_rfl) (fun _ _ _ h => h) (Or.inl ⟨by rfl, ?yg5_7⟩) hHeld ?rg5_7
              case yg5_7 =>
                intro wq hSw
                (try dsimp only at hSw)
                first | (go_simp; done) | (go_simp; with_reducible rfl)
              try simp only [Act.put, List.setIfInBounds_toArray, List.set_cons_zero, List.set_cons_succ]
              refine wpAnyH_take (i := 6) (oi := ⟨some 62, _, _, _, _, _⟩) (v := ?vg6_8) rfl (by kernel_rfl) (by kernel_rfl) (by kernel_rfl) (fun _ _ _ h => h) (Or.inl ⟨by rfl, ?yg6_8⟩) hHeld ?rg6_8
              case yg6_8 =>
                intro wq hSw
                (try dsimp only at hSw)
                first | (go_simp; done) | (go_simp; with_reducible rfl)
              try simp only [Act.put, List.setIfInBounds_toArray, List.set_cons_zero, List.set_cons_succ]
              refine wpAnyH_take (i := 7) (oi := ⟨some 63, _, _, _, _, _⟩) (v := ?vg7_9) rfl (by kernel_rfl) (by kernel_rfl) (by kernel_rfl) (fun _ _ _ h => h) (Or.inl ⟨by rfl, ?yg7_9⟩) hHeld ?rg7_9
              case yg7_9 =>
                intro wq hSw
                (try dsimp only at hSw)
                first | (go_simp; done) | (go_simp; with_reducible rfl)
              try simp only [Act.put, List.setIfInBounds_toArray, List.set_cons_zero, List.set_cons_succ]
              refine wpAnyH_take (i := 8) (oi := ⟨some 64, _, _, _, _, _⟩) (v := ?vg8_10) rfl (by kernel_rfl) (by kernel_rfl) (by kernel_rfl) (fun _ _ _ h => h) (Or.inl ⟨by rfl, ?yg8_10⟩) hHeld ?rg8_10
              case yg8_10 =>
                intro wq hSw
                (try dsimp only at hSw)
                first | (go_simp; done) | (go_simp; with_reducible rfl)
              try simp only [Act.put, List.setIfInBounds_toArray, List.set_cons_zero, List.set_cons_succ]
              refine wpAnyH_take (i := 9) (oi := ⟨some 65, _, _, _, _, _⟩) (v := ?vg9_11) rfl (by kernel_rfl) (by kernel_rfl) (by kernel_rfl) (fun _ _ _ h => h) (Or.inl ⟨by rfl, ?yg9_11⟩) hHeld ?rg9_11
              case yg9_11 =>
                intro wq hSw
                (try dsimp only at hSw)
                first | (go_simp; done) | (go_simp; with_reducible rfl)
              try simp only [Act.put, List.setIfInBounds_toArray, List.set_cons_zero, List.set_cons_succ]
              refine wpAnyH_take (i := 10) (oi := ⟨some 66, _, _, _, _, _⟩) (v := ?vg10_12) rfl (by kernel_rfl) (by kernel_rfl) (by kernel_rfl) (fun _ _ _ h => h) (Or.inl ⟨by rfl, ?yg10_12⟩) hHeld ?rg10_12
              case yg10_12 =>
                intro wq hSw
                (try dsimp only at hSw)
                have q0 := hSw.cell_some X2.out (by show ¬ w2.heap.size ≤ b2; omega)
                first | (go_simp; done) | (go_simp; with_reducible rfl)
              try simp only [Act.put, List.setIfInBounds_toArray, List.set_cons_zero, List.set_cons_succ]
              refine wpAnyH_ready (rs := [11]) (by kernel_rfl) (by simp) ?_
              refine AllReadyH.cons (o := ⟨some 67, _, _, _, _, _⟩) rfl (fun K hK => ?_) (AllReadyH.nil)
              go_simp
              have hbl := Hb.out.trans (hHeld.below hszr (fun k hk => hk))
              have hh := sum7_any Ar Lr cr r Ad ld cd ((addL old now).map (gm (facB k (k + i) J))) v_1 (SR.out.below hbl (Nat.le_refl _)) (SD.out.below hbl (Nat.le_refl _)) (by omega)
              clear hbl
              refine hh.mono ?_; clear hh; rintro e v_13 ⟨Ac, nc, cc, rfl, hsc, hbN, hmc⟩
              have hfN : Fr (fun k => w2.heap.size ≤ k) v_1 v_13 := Fr.of_below hbN
              have hnc : nc = (addL r ((addL old now).map (gm (facB k (k + i) J)))).length := by
                have := hsc.len
                rw [cells_length] at this
                omega
              have Hnc := Lib.hid hnc; clear hnc
              have Hoth := Lib.hid (show Oth A' Ac nc from fun b1 o1 o2 hn e1 e2 => by
                obtain ⟨g', cur, e', hg', _⟩ := hmc hn
                rw [e1] at e'; injection e' with e'; injection e' with e' _
                have := (HG0.out.own _ _ e2).2
                omega)
              have HG1 := Lib.hid (HG0.out.later hbN)
              have Hsc := Lib.hid hsc
              clear hsc hmc hbN HG0
              go_wp2_with fail
              have hHeld := hHeld.trans hfN
              have hz_14 := hfN.size
              refine hK.out _ _ hHeld (fun _ => ?_)
              clear hK K hfN
              try simp only [Act.put, List.setIfInBounds_toArray, List.set_cons_zero, List.set_cons_succ]
              refine wpAnyH_ready (rs := [12]) (by kernel_rfl) (by simp) ?_
              refine AllReadyH.cons (o := ⟨some 68, _, _, _, _, _⟩) rfl (fun K hK => ?_) (AllReadyH.nil)
              go_simp
              have hx := heap_alloc_new v_13 (.cells #[.slice Ac nc cc] 22)
              have hbB : Below v_13.heap.size v_13 (v_13.alloc (.cells #[.slice Ac nc cc] 22)) := (Below.refl _ _).alloc (Nat.le_refl _) _
              have hfN : Fr (fun k => w2.heap.size ≤ k) v_13 (v_13.alloc (.cells #[.slice Ac nc cc] 22)) := Fr.of_below hbB
              have HG2 := Lib.hid (HG1.out.later hbB)
              have Hsd := Lib.hid (Hsc.out.below hbB (Nat.le_refl _))
              clear hbB HG1 Hsc
              obtain ⟨xb, hxb⟩ : ∃ xb, xb = v_13.heap.size := ⟨_, rfl⟩
              obtain ⟨v_15, hw⟩ : ∃ x, x = v_13.alloc (.cells #[.slice Ac nc cc] 22) := ⟨_, rfl⟩
              rw [← hw] at hfN hx HG2 Hsd ⊢
              rw [← hxb] at hx ⊢
              clear hw hxb
              have HXb := Lib.hid hx; clear hx
              have hHeld := hHeld.trans hfN
              have hz_16 := hfN.size
              refine hK.out _ _ hHeld (fun _ => ?_)
              clear hK K hfN
              try simp only [Act.put, List.setIfInBounds_toArray, List.set_cons_zero, List.set_cons_succ]
              refine wpAnyH_ready (rs := [13]) (by kernel_rfl) (by simp) ?_
              refine AllReadyH.cons (o := ⟨some 69, _, _, _, _, _⟩) rfl (fun K hK => ?_) (AllReadyH.nil)
              have hszw := hHeld.size
              refine step_append_g1 (B := w2.heap.size) rfl (.tmp 56) (.tmp 68) rfl rfl HG2.out (by omega) Ac nc cc (addL r ((addL old now).map (gm (facB k (k + i) J)))) Hnc.out Hsd.out Hoth.out HXb.out rfl (by omega) ?_
              intro A3 c3 v_17 hg3 hb3
              rw [Hr.out, updL_next] at hg3
              have hfN : Fr (fun k => w2.heap.size ≤ k) v_15 v_17 := Fr.of_belowAt hb3 (fun k hk => hk)
              have HG3 := Lib.hid hg3
              clear hg3 hb3 HXb HG2
              have hHeld := hHeld.trans hfN
              have hz_18 := hfN.size
              refine hK.out _ _ hHeld (fun _ => ?_)
              clear hK K hfN
              try simp only [Act.put, List.setIfInBounds_toArray, List.set_cons_zero, List.set_cons_succ]
              refine wpAnyH_take (i := 14) (oi := ⟨some 16, _, _, _, _, _⟩) (v := ?vg14_19) rfl (by kernel_rfl) (by kernel_rfl) (by kernel_rfl) (fun _ _ _ h => h) (Or.inl ⟨by rfl, ?yg14_19⟩) hHeld ?rg14_19
              case yg14_19 =>
                intro wq hSw
                (try dsimp only at hSw)
                first | (go_simp; done) | (go_simp; with_reducible rfl)
              try simp only [Act.put, List.setIfInBounds_toArray, List.set_cons_zero, List.set_cons_succ]
              refine wpAnyH_done (by kernel_rfl) ?_ _
              have Hb2 := Lib.hid (Hb.out.trans (hHeld.below hszr (fun k hk => hk)))
              clear hHeld
              go_wp2_with fail
              go_roundw
              case rel => exact ⟨i + 1, A3, c3, by omega, by go_num, rfl, HG3.out, fun a ha => by
                by_cases hai : a = i
                · subst hai
                  rw [← Hr.out, ← HLr.out]
                · exact Hall.out a (by omega), Hb2.out⟩
              case measure => simp [intOf]; omega
            · have hrr : ((Lr : Int) != (L0 : Int)) = true := by simp; omega
              have Hne := Lib.hid heq
              clear heq
              go_wp2_with fail
              go_ret2
              exact ⟨.inl ⟨fun hok => Hne.out (by rw [HLr.out, Hr.out, hok.2.2.2 i hlt]; exact HL0.out), rfl⟩, Hb2.out.trans (Hb.out.mono hszw2)⟩
          · obtain rfl : i = n := by omega
            have hlti : ¬ ((i : Int) < (i : Int)) := by omega
            go_wp2_with fail
            go_ret2
            exact ⟨.inr ⟨⟨⟨by omega, by omega⟩, by rw [HL0.out, HL1.out], HLn.out, fun a ha => by rw [Hall.out a ha]; exact HL0.out.symm⟩, A', c', rfl, HG.out.gr⟩, Hb2.out.trans (Hb.out.mono hszw2)⟩
      · have hnn : ((n : Int) != (m : Int)) = true := by simp; omega
        go_enter Try.func15, Try.ntmps15
        go_wp2_with fail
        refine (sum7_any A0 L0 c0 old A1 L0 c1 now w HS0.out HS1.out hL0).mono ?_; rintro e w1 ⟨As, ns, cs, rfl, hss, hb1, hms⟩
        clear hms
        have Hss := Lib.hid hss
        have Hb1 := Lib.hid hb1
        have hns : ns ≤ L0 := by
          have h8 := HL0.out
          have := hss.len
          rw [cells_length, addL_len] at this
          omega
        clear hss hb1
        go_wp2_with fail
        refine (rspread_yes k m J As ns cs (addL old now) w1 hj' h3 Hss.out (by omega)).mono ?_; rintro e w2 ⟨⟨Ax, cx, rfl, hgx⟩, hb2⟩
        have Hgx := Lib.hid hgx
        have Hb2 := Lib.hid (Hb1.out.trans (hb2.mono Hb1.out.size))
        clear hgx hb2
        go_wp2_with fail
        go_ret2
        exact ⟨.inl ⟨fun hok => hnm (by rw [← HLn.out, hok.2.2.1]), rfl⟩, Hb2.out⟩
    · have h00 : ((L0 : Int) != (L1 : Int)) = true := by simp; omega
      go_enter Try.func15, Try.ntmps15
      go_wp2_with fail
      refine (sum7_any A0 L0 c0 old A1 L1 c1 now w HS0.out HS1.out hL0).mono ?_; rintro e w1 ⟨As, ns, cs, rfl, hss, hb1, hms⟩
      clear hms
      have Hss := Lib.hid hss
      have Hb1 := Lib.hid hb1
      have hns : ns ≤ L0 := by
        have h8 := HL0.out
        have := hss.len
        rw [cells_length, addL_len] at this
        omega
      clear hss hb1
      go_wp2_with fail
      refine (rspread_yes k m J As ns cs (addL old now) w1 hj' h3 Hss.out (by omega)).mono ?_; rintro e w2 ⟨⟨Ax, cx, rfl, hgx⟩, hb2⟩
      have Hgx := Lib.hid hgx
      have Hb2 := Lib.hid (Hb1.out.trans (hb2.mono Hb1.out.size))
      clear hgx hb2
      go_wp2_with fail
      go_ret2
      exact ⟨.inl ⟨fun hok => hll (by have := hok.2.1; rw [HL0.out, HL1.out] at this; exact this), rfl⟩, Hb2.out⟩
  · go_enter Try.func15, Try.ntmps15
    go_wp2_with fail
    refine (sum7_any A0 L0 c0 old A1 L1 c1 now w HS0.out HS1.out hL0).mono ?_; rintro e w1 ⟨As, ns, cs, rfl, hss, hb1, hms⟩
    clear hms
    have Hss := Lib.hid hss
    have Hb1 := Lib.hid hb1
    have hns : ns ≤ L0 := by
      have h8 := HL0.out
      have := hss.len
      rw [cells_length, addL_len] at this
      omega
    clear hss hb1
    go_wp2_with fail
    refine (rspread_no k m j As ns cs w1 hj).mono ?_; rintro e w2 ⟨rfl, rfl⟩
    go_wp2_with fail
    go_ret2
    exact ⟨.inl ⟨fun hok => hj hok.1, rfl⟩, Hb1.out⟩
end Go.Proofs.Ytjacdabhlnfbkaa

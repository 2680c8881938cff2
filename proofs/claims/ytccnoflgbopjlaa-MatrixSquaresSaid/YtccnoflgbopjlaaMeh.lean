/-
  Contract of the document's Rank, of a right matrix. No condition.
-/
import Derived.Test.YtccnoflgbopjlaaMeg
namespace Go.Proofs.Ytccnoflgbopjlaa
open Go.RowKit Go.Proofs
set_option linter.unusedVariables false

set_option maxRecDepth 20000 in
set_option maxHeartbeats 6400000 in
theorem rrank_yes (m : M3) (P : Option Addr) (p : Nat) (w : World) (s1 : Sl w 1 P m.l.length p (cells m.l)) (R C : Nat) (hM : m.Is R C (mx C m.l)) :
    Calls Try.prog 24 #[.agg #[.int .i64 m.r, .int .i64 m.c, .slice P m.l.length p]] w fun e w' => ∃ L : Nat, e = .returned (.int .i64 (L : Int)) ∧ Rk R C (mx C m.l) L ∧ Below w.heap.size w w' := by
  have r1 := hM.r1; have r2 := hM.r2; have c1 := hM.c1; have c2 := hM.c2
  have hlim := s1.lim
  have Hg := Lib.hid (And.intro hM.r hM.c)
  have Hok := Lib.hid (show rightB m.r m.c m.l.length = true from hM.ok)
  have HM := Lib.hid hM; clear hM
  have HS := Lib.hid s1; clear s1
  have hb0 : Below w.heap.size w (w.alloc (m.box P p)) := (Below.refl _ _).alloc (Nat.le_refl _) _
  have hx0 := heap_alloc_new w (m.box P p)
  go_enter Try.func24, Try.ntmps24
  go_wp2_with fail
  have hh := rright_any m.r m.c P m.l.length p hlim (w.alloc (m.box P p))
  refine hh.mono ?_; clear hh; rintro e w2 ⟨rfl, hb⟩
  rw [Hok.out]
  have Hbw := Lib.hid (hb0.trans (hb.mono hb0.size))
  have hx2 := (hb.block _ (block_lt hx0)).trans hx0
  have hz2 : w.heap.size + 1 ≤ w2.heap.size := block_lt hx2
  have Hx2 := Lib.hid hx2
  clear hb0 hx0 hb hx2
  go_wp2_with fail
  go_loopw [3, 4] (fun v i wr => ∃ (i' k : Nat) (A : Option Addr) (c : Nat) (K : Mx) (ld : Nat → Nat), i' ≤ R ∧ k ≤ i' ∧ i = .int .i64 (i' : Int) ∧ v = .slice A k c ∧ Kp wr (w.heap.size + 1) A k c C K ∧ RkIn C i' k (mx C m.l) K ld ∧ Below w.heap.size w wr ∧ wr.heap[w.heap.size]? = some (m.box P p)) (fun _ i _ => R - (intOf i).toNat)
  case atStart => exact ⟨0, 0, none, 0, fun _ _ => 0, id, by omega, by omega, rfl, rfl, Kp.nil _ _ _ _, RkIn.start _ _ _, Hbw.out, Hx2.out⟩
  case round =>
    obtain ⟨i, k, A, c, K, ld, hi', hki, rfl, rfl, hk, hrk, hbw, hx⟩ := hrel
    have b0 := boxM_0 hx; have b1 := boxM_1 hx; have b2 := boxM_2 hx
    have Hk := Lib.hid hk; clear hk
    have Hrk := Lib.hid hrk; clear hrk
    have Hx := Lib.hid hx; clear hx
    have hcap := Hk.out.cap
    unfold maxLen at hcap
    by_cases hi : i < R
    · have da : decide ((i : Int) < m.r) = true := by have := Hg.out.1; simp; omega
      have hz0 : w.heap.size + 1 ≤ wr.heap.size := block_lt Hx.out
      have hbe : Below wr.heap.size wr (wr.alloc (.cells #[] 5)) := (Below.refl _ _).alloc (Nat.le_refl _) _
      have b0 := (hbe.cell (World.block_lt_of_cell? wr _ b0)).trans b0
      have b1 := (hbe.cell (World.block_lt_of_cell? wr _ b1)).trans b1
      have b2 := (hbe.cell (World.block_lt_of_cell? wr _ b2)).trans b2
      have hempty := Sl.empty (wr.alloc (.cells #[] 5)) 1 (some ⟨wr.heap.size, 0, none⟩) 0 (by decide)
      go_wp2_with fail
      have hh := rrow_any R C i P m.l.length p m.l r2 c1 c2 HM.out.len hi (wr.alloc (.cells #[] 5)) ((HS.out.below hbw (Nat.le_refl _)).below hbe (Nat.le_refl _))
      rw [← Hg.out.1, ← Hg.out.2, rowL_mx HM.out.len hi] at hh
      refine hh.mono ?_; clear hh; rintro e w4 ⟨A4, c4, rfl, s4, hb4⟩
      have HE := Lib.hid (show Own w4 wr.heap.size 5 1 (some ⟨wr.heap.size, 0, none⟩) 0 0 [] from Own.full (hempty.below hb4 (Nat.le_refl _)))
      have hw4 : Below wr.heap.size wr w4 := hbe.trans (hb4.mono hbe.size)
      have Hs4 := Lib.hid s4; clear s4
      have hz4 := hw4.size
      clear hempty hb4 hbe
      go_wp2_with (at_builtin; refine wpList_append_bm (B := wr.heap.size) rfl (.tmp 19) (.tmp 22) rfl rfl HE.out ?pa A4 C c4 _ rfl Hs4.out ?pb ?pc)
      case pa => exact hz4
      case pb => omega
      intro A5 c5 w5 ho5 hb5 hr5
      have hw5 : Below wr.heap.size wr w5 := hw4.trans hb5
      have Hw5 := Lib.hid hw5; clear hw5

      have hnew5 : ∀ b o, 0 < C → A5 = some ⟨b, o, none⟩ → wr.heap.size ≤ b := fun b o hC hA => ownsRow_new (hr5 hC) hC hA
      have Hnew5 := Lib.hid hnew5; clear hnew5 hr5
      have HO5 := Lib.hid ho5.sl; clear ho5
      clear hb5
      go_wp2_with fail
      obtain ⟨wo, rfl⟩ : ∃ wo, wo = wr := ⟨_, rfl⟩
      go_loopw [5, 6] (fun v ix wi => ∃ (t : Nat) (A' : Option Addr) (c' : Nat) (row : Nat → UInt8), t ≤ k ∧ ix = .int .i64 (t : Int) ∧ v = .slice A' C c' ∧ Sl wi 1 A' C c' (cells (rowL C row)) ∧ RowIn C i t (mx C m.l) K ld row ∧ Below wo.heap.size wo wi ∧ (∀ b o, 0 < C → A' = some ⟨b, o, none⟩ → wo.heap.size ≤ b)) (fun _ ix _ => k - (intOf ix).toNat)
      case atStart => exact ⟨0, A5, c5, mx C m.l i, by omega, rfl, rfl, HO5.out, RowIn.start _ _ _ _ _, Hw5.out, Hnew5.out⟩
      case round =>
        obtain ⟨t, A6, c6, row, ht, rfl, rfl, hs, hri, hbi, hnew⟩ := hrel
        have Hs := Lib.hid hs; clear hs
        have Hri := Lib.hid hri; clear hri
        have Hbi := Lib.hid hbi; clear hbi
        have Hnew := Lib.hid hnew; clear hnew
        by_cases htk : t < k
        · obtain ⟨g, A7, c7, rfl, hcell, s7⟩ := (Hk.out.later Hbi.out).cell htk
          have hld := Hrk.out.lead t htk
          obtain ⟨q, hq⟩ : ∃ q, q = ld t := ⟨_, rfl⟩
          rw [← hq] at hld
          have Hq := Lib.hid hq; clear hq
          have hqC := hld.1
          obtain ⟨b, o, rfl, hrc⟩ := Hs.out.rowcell hqC
          obtain ⟨b7, o7, rfl, hkc⟩ := s7.rowcell hqC
          obtain ⟨y, hy⟩ : ∃ y, y = K t q := ⟨_, rfl⟩
          obtain ⟨x, hx⟩ : ∃ x, x = row q := ⟨_, rfl⟩
          rw [← hx] at hrc
          rw [← hy] at hkc
          have hf := rfirst_any _ C c7 _ wr s7
          rw [first_hit hld.1 hld.2.1 hld.2.2] at hf
          have Hf := Lib.hid hf; clear hf
          have Hld := Lib.hid hld; clear hld
          have S7 := Lib.hid s7; clear s7
          have Hx := Lib.hid hx; clear hx
          have Hy := Lib.hid hy; clear hy
          go_wp2_with fail
          refine Hf.out.mono ?_; rintro e w' ⟨rfl, rfl⟩
          by_cases h0 : x = 0
          · have e1 : ((x.toNat : Int) != 0) = false := by rw [h0]; rfl
            have H0 := Lib.hid h0; clear h0
            go_wp2_with fail
            go_roundw
            case rel => exact ⟨t + 1, _, c6, row, by omega, by go_num, rfl, Hs.out, Hri.out.skip (by rw [← Hq.out, ← Hx.out, H0.out]), Hbi.out, Hnew.out⟩
            case measure => simp [intOf]; omega
          · have e1 : ((x.toNat : Int) != 0) = true := by
              have : x.toNat ≠ 0 := fun e => h0 (UInt8.toNat_inj.1 e)
              simp; omega
            have hd : ∀ wz, Calls Try.prog 46 #[.int .u8 (x.toNat : Int), .int .u8 (y.toNat : Int)] wz fun e w' => e = .returned (.tuple #[.int .u8 ((gd x y).toNat : Int), .int .i64 0]) ∧ w' = wz := fun wz => by
              have := rdiv_any x y wz
              rwa [divV, if_neg (by rw [Hy.out]; exact Hld.out.2.1)] at this
            have H0 := Lib.hid h0; clear h0
            go_wp2_with fail
            go_quiet (first | (go_at_call 46; exact Calls.quiet_of_same (hd _)))
            go_wp2_with fail
            have hh := rfoldg_any (gd x y) _ C c7 _ _ C c6 _ (w'.drewN nq) (S7.out.drewN nq) (Hs.out.drewN nq) (by omega)
            rw [rowL_fld] at hh
            refine hh.mono ?_; clear hh; rintro e w8 ⟨A8, n8, c8, rfl, s8, hb8, hm8⟩
            have hl8 := s8.len
            rw [cells_length, rowL_length, Nat.mul_one] at hl8
            have hsz8 : wo.heap.size ≤ (w'.drewN nq).heap.size := Hbi.out.size
            have hb9 : Below wo.heap.size wo w8 := (below_drewN Hbi.out nq).trans (hb8.mono hsz8)
            have Hb9 := Lib.hid hb9; clear hb9 hb8
            have S8 := Lib.hid s8; clear s8
            have Hm8 := Lib.hid hm8; clear hm8
            obtain rfl : n8 = C := hl8.symm
            go_wp2_with fail
            go_roundw
            case rel =>
              refine ⟨t + 1, A8, c8, _, by omega, by go_num, rfl, S8.out, ?_, Hb9.out, fun b o hC hA => ?_⟩
              · have := Hri.out.next Hrk.out htk
                rw [← Hq.out, ← Hx.out, ← Hy.out] at this
                exact this
              · obtain ⟨g8, cur, e8, h8, _⟩ := Hm8.out hC
                rw [e8] at hA
                injection hA with hA
                injection hA with hA _
                rw [← hA]
                exact Nat.le_trans hsz8 h8
            case measure => simp [intOf]; omega
        · obtain rfl : t = k := by omega
          have hlo := hbw.size
          have hbr : Below w.heap.size w wr := hbw.trans (Hbi.out.mono hlo)
          have hxr : wr.heap[w.heap.size]? = some (m.box P p) := (Hbi.out.block _ hz0).trans Hx.out
          have hzr := Hbi.out.size
          have Hbr := Lib.hid hbr; clear hbr
          have Hxr := Lib.hid hxr; clear hxr
          rcases row_first C row with hz | ⟨q, hqC, h1, h0⟩
          · have hf := rfirst_any A6 C c6 _ wr Hs.out
            rw [first_none hz] at hf
            have Hf := Lib.hid hf; clear hf
            have Hz := Lib.hid hz; clear hz
            go_wp2_with fail
            refine Hf.out.mono ?_; rintro e w' ⟨rfl, rfl⟩
            go_wp2_with fail
            go_roundw
            case rel => exact ⟨i + 1, t, A, c, K, ld, by omega, by omega, by go_num, rfl, Hk.out.later Hbi.out, Hrk.out.none Hri.out Hz.out, Hbr.out, Hxr.out⟩
            case measure => simp [intOf]; omega
          · have hf := rfirst_any A6 C c6 _ wr Hs.out
            rw [first_hit hqC h1 h0] at hf
            have Hf := Lib.hid hf; clear hf
            have H1 := Lib.hid h1; clear h1
            have H0 := Lib.hid h0; clear h0
            have hbe2 : Below wr.heap.size wr (wr.alloc (.cells #[.slice A6 C c6] 22)) := (Below.refl _ _).alloc (Nat.le_refl _) _
            have hk2 := (Hk.out.later Hbi.out).later hbe2
            obtain ⟨ks, hks, hrs⟩ := hk2.ks
            have Hks := Lib.hid hks; clear hks
            have Hrs := Lib.hid hrs; clear hrs hk2
            have Hbe2 := Lib.hid hbe2; clear hbe2
            obtain ⟨i0, hi0, hzi, hz1, hz2⟩ := info_parts info_bs2
            go_wp2_with fail
            refine Hf.out.mono ?_; rintro e w' ⟨rfl, rfl⟩
            go_wp2_with (at_builtin; refine wpList_append_lies _ rfl (.tmp 69) (.tmp 71) 57 rfl (w.heap.size + 1) 22 i0 (.slice none 0 0) 1 24 Try.underlying57 hi0 hzi hz1 hz2 rfl (by decide) _ t ks rfl Hks.out ⟨w'.heap.size, 0, none⟩ 1 1 [.slice A6 C c6] rfl rfl ?news ?one (by decide) ?h63 ?hby ?base _ rfl ?hk)
            case news => exact World.news_of_block (heap_alloc_new _ _)
            case one => exact fun u hu => by simp at hu; subst hu; rfl
            case h63 => unfold maxLen; omega
            case hby => omega
            case base => simp; omega
            intro g cap w9 ho9 hg9 hat9 hlt9
            have hg10 : Below (w.heap.size + 1) (w'.alloc (.cells #[.slice A6 C c6] 22)) w9 := (Below.refl _ _).grown hg9 (by simp; omega) (ownsRow_block Hks.out)
            have Hg10 := Lib.hid hg10; clear hg10
            have hz10 := Hg10.out.size
            go_wp2_with fail
            go_roundw
            case rel =>
              refine ⟨i + 1, t + 1, some ⟨g, 0, none⟩, cap, upd K t row, fun a => if a = t then q else ld a, by omega, by omega, by go_num, rfl, ?_, Hrk.out.more Hri.out hqC H1.out H0.out, ?_, ?_⟩
              · refine Kp.push Hks.out Hrs.out (Hs.out.below Hbe2.out (Nat.le_refl _)) ?_ ho9 hg9 (hat9.imp id fun h => by rw [h]; simp)
                intro b o g2 hC hA hg2
                have := Hnew.out b o hC hA
                have := Hk.out.lt hg2
                omega
              · exact (Hbr.out.alloc Hbr.out.size _).trans (Hg10.out.mono (by omega))
              · exact (Hg10.out.block _ (by omega)).trans ((Hbe2.out.block _ (by omega)).trans Hxr.out)
            case measure => simp [intOf]; omega
    · obtain rfl : i = R := by omega
      have da : decide ((i : Int) < m.r) = false := by have := Hg.out.1; simp; omega
      go_wp2_with fail
      go_ret
      exact ⟨k, rfl, Hrk.out.rk, hbw⟩
end Go.Proofs.Ytccnoflgbopjlaa

/-
  The statement's function CrcBursts returns true, whatever its arguments. Condition: the table reads as the row lists it ('Nt').
-/
import Derived.Test.YtpmjpagmddjjaaaDoorCrcj
namespace Go.Proofs.YtpmjpagmddjjaaaDoor
open Go.RowKit
set_option linter.unusedVariables false

theorem mask_w (a : W32) (k : Nat) {b : Bool} (hb : a.getLsbD k = b) : (bits .and .u32 ((a.toNat : Int) / 2 ^ k) 1 == 1) = b := by
  have h1 : bits .and .u32 ((a >>> k).toNat : Int) 1 = ((if a.getLsbD k then 1 else 0 : Nat) : Int) := by
    have := u32_and_nat (a >>> k).toNat 1 (toNat_lt32 _) (by omega)
    rw [show ((1 : Nat) : Int) = 1 from rfl] at this
    rw [this, BitVec.toNat_ushiftRight, bit_nat]
  rw [shr_w, h1, hb]
  cases b <;> rfl
theorem tb_w (u : UInt8) (r : Nat) (hr : r < 8) : bits .xor .u8 (u.toNat : Int) (2 ^ r % 256) = ((tb u r).toNat : Int) := by
  have h : 2 ^ r < 256 := Nat.pow_lt_pow_right (by omega) (show r < 8 from hr)
  have h3 : ((2 : Int) ^ r) = ((2 ^ r : Nat) : Int) := by simp
  have e : ((2 : Int) ^ r % 256) = ((UInt8.ofNat (2 ^ r)).toNat : Int) := by
    rw [UInt8.toNat_ofNat', h3]
    omega
  rw [e, xor_b, tb]
theorem ne_w {a b : W32} (h : a ≠ b) : ((a.toNat : Int) != (b.toNat : Int)) = true := by
  rw [bne_iff_ne]
  intro e
  exact h (BitVec.eq_of_toNat_eq (by omega))

theorem eq_of_ne_w {a b : Int} (h : (a != b) = true) : (a == b) = false := by
  rw [bne_iff_ne] at h
  exact beq_eq_false_iff_ne.2 h

/-- What the cut ahead of the copy leaves: where the bits are turned. -/
def AtF (n : Nat) (w : World) (v : Value) (wx : World) : Prop := ∃ f : Nat, f + 32 ≤ 8 * n ∧ v = .int .i64 (f : Int) ∧ w = wx

set_option maxHeartbeats 1000000 in
set_option maxRecDepth 20000 in
theorem crcBursts_walk (A : Option Addr) (n cp : Nat) (l : List UInt8) (at_ : Int) (ha1 : -9223372036854775808 ≤ at_) (ha2 : at_ < 9223372036854775808) (mask : W32) (w : World) (hs : Sl w 1 A n cp (cells l)) (h : Nt w) :
    Calls Tryd.prog 8 #[.slice A n cp, .int .i64 at_, .int .u32 (mask.toNat : Int)] w (SaysTrue w) := by
  have hn := hs.lim
  unfold maxLen at hn
  have hsl := hs.len
  rw [cells_length, Nat.mul_one] at hsl
  have H := Lib.hid h; clear h
  have Hs := Lib.hid hs; clear hs
  have Hsl := Lib.hid hsl; clear hsl
  by_cases hlow : n < 5
  · have hd : decide ((n : Int) < 5) = true := by simp; omega
    go_enter Tryd.func8, Tryd.ntmps8
    go_wp2_with fail
    refine (summed_any _ H.out).mono ?_; rintro e w1 ⟨rfl, hq⟩
    have hb1 : Below w.heap.size w w1 := hq
    clear hq
    go_wp2_with fail
    go_ret
    exact ⟨rfl, hb1⟩
  have hd : decide ((n : Int) < 5) = false := by simp; omega
  by_cases hbig : n > 3000
  · have hd2 : decide ((n : Int) > 3000) = true := by simp; omega
    go_enter Tryd.func8, Tryd.ntmps8
    go_wp2_with fail
    refine (summed_any _ H.out).mono ?_; rintro e w1 ⟨rfl, hq⟩
    have hb1 : Below w.heap.size w w1 := hq
    clear hq
    go_wp2_with fail
    go_ret
    exact ⟨rfl, hb1⟩
  have hd2 : decide ((n : Int) > 3000) = false := by simp; omega
  have hn3 : (n : Int) ≤ 3000 := by omega
  by_cases hm0 : mask = 0
  · have hd3 : ((mask.toNat : Int) == 0) = true := by rw [hm0]; rfl
    clear hm0
    go_enter Tryd.func8, Tryd.ntmps8
    go_wp2_with fail
    refine (summed_any _ H.out).mono ?_; rintro e w1 ⟨rfl, hq⟩
    have hb1 : Below w.heap.size w w1 := hq
    clear hq
    go_wp2_with fail
    go_ret
    exact ⟨rfl, hb1⟩
  have hd3 : ((mask.toNat : Int) == 0) = false := by
    rw [beq_eq_false_iff_ne]
    intro e
    exact hm0 (BitVec.eq_of_toNat_eq (by simpa using e))
  have Hm0 := Lib.hid hm0; clear hm0
  go_enter Tryd.func8, Tryd.ntmps8
  go_upto_region 3 with (fail)
  go_cut [7] (fun v wx => AtF n w v wx)
  case first =>
    go_wp2_with fail
    all_goals
      go_meet
      exact ⟨(max 0 (min at_ (8 * (n : Int) - 32))).toNat, by omega, by congr 1; omega, rfl⟩
  case rest =>
    obtain ⟨f, hf, rfl, rfl⟩ := hcut
    go_wp2_with (at_builtin; refine wpList_append_bm (B := w.heap.size) rfl (.tmp 30) (.tmp 31) rfl rfl (Own.full (Sl.nil _ _ _ (by decide))) (Nat.le_refl _) A n cp l rfl Hs.out ?c3 ?c4)
    case c3 => omega
    intro A1 c1 w1 ho1 hb1 hm1
    have hcap1 := ho1.sl.cap
    have htop1 := ho1.sl.top
    have hmine : Mine w1 w.heap.size 5 A1 n (cells l) := fun h0 => Mine.of_own (hm1 h0) h0
    have Hm1 := Lib.hid hmine; clear hmine hm1 ho1
    go_wp2_with fail
    go_loopw [9] (fun i wr => ∃ (j : Nat) (L : List UInt8), j ≤ 32 ∧ i = .int .i64 (j : Int) ∧ Below w.heap.size w wr ∧ Mine wr w.heap.size 5 A1 n (cells L) ∧ Flip l L f mask j) (fun i _ => 32 - (intOf i).toNat)
    case atStart => exact ⟨0, l, by omega, rfl, hb1, Hm1.out, Flip.start l f mask⟩
    case round =>
      obtain ⟨j, L, hj, rfl, hb, hmj, hfl⟩ := hrel
      have Hm := Lib.hid hmj; clear hmj
      have Hfl := Lib.hid hfl; clear hfl
      have hLn : L.length = n := by rw [Hfl.out.len, Hsl.out]
      have HLn := Lib.hid hLn; clear hLn
      by_cases hlt : j < 32
      · by_cases hbit : mask.getLsbD j = true
        · have ht := mask_w mask j hbit
          have Hbit := Lib.hid hbit; clear hbit
          obtain ⟨q, hq⟩ : ∃ q, q = (f + j) / 8 := ⟨_, rfl⟩
          obtain ⟨r, hr⟩ : ∃ r, r = (f + j) % 8 := ⟨_, rfl⟩
          have hq1 : ((f : Int) + (j : Int)) / 8 = (q : Int) := by omega
          have hr1 : ((f : Int) + (j : Int)) % 8 = (r : Int) := by omega
          have hqn : q < n := by omega
          have hr8 : r < 8 := by omega
          have hqL : q < L.length := by rw [HLn.out]; exact hqn
          have Hq := Lib.hid hq; clear hq
          have Hr := Lib.hid hr; clear hr
          obtain ⟨u, hu⟩ : ∃ u, L[q]? = some u := ⟨_, List.getElem?_eq_getElem hqL⟩
          obtain ⟨g, rfl, hBg, hcell, hfz⟩ := Hm.out.at_ hqn hu
          have Hu := Lib.hid hu; clear hu
          go_wp2_with fail
          go_roundw
          case rel => exact ⟨j + 1, L.set q (tb u r), by omega, by go_num, hb.setCell hBg _, by rw [tb_w u r hr8]; exact Hm.out.set hqn _, by
            have h1 := Hfl.out.turn Hbit.out (by rw [Hsl.out]; omega) u (by rw [← Hq.out]; exact Hu.out)
            rw [← Hq.out, ← Hr.out] at h1
            exact h1⟩
          case measure => simp [intOf]; omega
        · have ht := mask_w mask j (Bool.eq_false_iff.2 hbit)
          have Hbit := Lib.hid (Bool.eq_false_iff.2 hbit); clear hbit
          go_wp2_with fail
          go_roundw
          case rel => exact ⟨j + 1, L, by omega, by go_num, hb, Hm.out, Hfl.out.stay Hbit.out⟩
          case measure => simp [intOf]; omega
      · obtain rfl : j = 32 := by omega
        have Hsw := Lib.hid (Hm.out.sl HLn.out hcap1 htop1)
        have hne := ne_w (Hfl.out.sums (by rw [Hsl.out]; omega) Hm0.out)
        have Hne := Lib.hid hne; clear hne
        clear hb1
        have hb2 : Below w.heap.size w wr := hb
        clear hb
        go_wp2_with fail
        refine (sum_any A1 n c1 L _ Hsw.out (H.out.keep hb2)).mono ?_; rintro e w3 ⟨rfl, hq⟩
        have hb3 : Below w.heap.size w w3 := hb2.trans (hq.mono hb2.size)
        clear hq
        have hne : (((more (0#32) L).toNat : Int) != ((more (0#32) l).toNat : Int)) = true := Hne.out
        have hne2 := eq_of_ne_w hne
        go_wp2_with fail
        refine (sum_any A n cp l _ (Hs.out.below hb3 (Nat.le_refl _)) (H.out.keep hb3)).mono ?_; rintro e w4 ⟨rfl, hq⟩
        have hb4 : Below w.heap.size w w4 := hb3.trans (hq.mono hb3.size)
        clear hq
        go_wp2_with fail
        refine (summed_any _ (H.out.keep hb4)).mono ?_; rintro e w5 ⟨rfl, hq⟩
        have hb5 : Below w.heap.size w w5 := hb4.trans (hq.mono hb4.size)
        clear hq
        go_wp2_with fail
        go_ret
        exact ⟨rfl, hb5⟩
end Go.Proofs.YtpmjpagmddjjaaaDoor

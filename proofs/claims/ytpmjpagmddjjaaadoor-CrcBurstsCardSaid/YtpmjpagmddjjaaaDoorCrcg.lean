/-
  Contracts of the document's answers of layer 2: register, turned, noughts, More, Sum, Zeros, Join, Turned. No condition but that slices read as bytes.
-/
import Derived.Test.YtpmjpagmddjjaaaDoorCrce
import Derived.Test.YtpmjpagmddjjaaaDoorByt
namespace Go.Proofs.YtpmjpagmddjjaaaDoor
open Go.RowKit
set_option linter.unusedVariables false

set_option maxHeartbeats 400000 in
set_option maxRecDepth 20000 in
theorem register_any (A : Option Addr) (n cp : Nat) (l : List UInt8) (c : W32) (w : World) (hs : Sl w 1 A n cp (cells l)) :
    Calls Tryd.prog 22 #[.int .u32 (c.toNat : Int), .slice A n cp] w fun e w' => e = .returned (.int .u32 ((reg c l).toNat : Int)) ∧ w = w' := by
  have hn := hs.lim
  unfold maxLen at hn
  have hl := hs.len
  rw [cells_length, Nat.mul_one] at hl
  have Hs := Lib.hid hs; clear hs
  have Hl := Lib.hid hl; clear hl
  go_enter Tryd.func22, Tryd.ntmps22
  go_wp2_with fail
  go_loop [0, 5, 6, 7, 8] (fun v i _ _ _ => ∃ (j : Nat) (y : W32), y = reg c (l.take j) ∧ j ≤ n ∧ i = .int .i64 (j : Int) ∧ v = .int .u32 (y.toNat : Int)) (fun _ i _ _ _ => n - (intOf i).toNat)
  case atStart => exact ⟨0, c, rfl, by omega, rfl, rfl⟩
  case round =>
    obtain ⟨j, y, hy, hj, rfl, rfl⟩ := hrel
    have Hy := Lib.hid hy; clear hy
    by_cases hlt : j < n
    · obtain ⟨b, o, rfl, hc⟩ := Hs.out.at_ hlt
      have hjl : j < l.length := by rw [Hl.out]; exact hlt
      have hcell := hc j _ (cells_get l j hjl)
      have Hc := Lib.hid hc; clear hc
      obtain ⟨u, hu⟩ : ∃ u, u = l[j] := ⟨_, rfl⟩
      rw [bv, ← hu] at hcell
      have Hu := Lib.hid hu; clear hu
      go_wp2_with fail
      go_loop [0, 6, 7, 8] (fun v k _ _ => ∃ (k' : Nat) (z : W32), z = rb (bw u) k' y ∧ k' ≤ 8 ∧ k = .int .i64 (k' : Int) ∧ v = .int .u32 (z.toNat : Int)) (fun _ k _ _ => 8 - (intOf k).toNat)
      case atStart => exact ⟨0, y, rfl, by omega, rfl, rfl⟩
      case round =>
        obtain ⟨k, z, hz, hk, rfl, rfl⟩ := hrel
        have Hz := Lib.hid hz; clear hz
        by_cases hlt8 : k < 8
        · obtain ⟨P, hP⟩ : ∃ P : Nat, P = 2 ^ k := ⟨_, rfl⟩
          have hp : (2 : Int) ^ k % 4294967296 = (P : Int) := by
            have : 2 ^ k < 4294967296 := Nat.pow_lt_pow_right (by omega) (show k < 32 by omega)
            rw [hP]
            have h3 : ((2 : Int) ^ k) = ((2 ^ k : Nat) : Int) := by simp
            rw [h3]
            omega
          have hp0 : 0 < P := by rw [hP]; exact Nat.pow_pos (by omega)
          have HP := Lib.hid hP; clear hP
          go_wp2_with fail
          · have ht : (((u.toNat : Int) % 4294967296 / (P : Int)).tmod 2 != (z.toNat : Int) % 2) = true := by assumption
            go_round
            case rel => exact ⟨k + 1, _, by rw [rb_one Hz.out ((bit_test u z k P HP.out).symm.trans ht), if_pos rfl], by omega, by go_num, by rw [poly_w]⟩
            case measure => simp [intOf]; omega
          · have ht : (((u.toNat : Int) % 4294967296 / (P : Int)).tmod 2 != (z.toNat : Int) % 2) = false := by assumption
            go_round
            case rel => exact ⟨k + 1, _, by rw [rb_one Hz.out ((bit_test u z k P HP.out).symm.trans ht), if_neg (by decide), x0], by omega, by go_num, by rw [half_w]⟩
            case measure => simp [intOf]; omega
        · obtain rfl : k = 8 := by omega
          go_wp2_with fail
          go_round
          case rel => exact ⟨j + 1, z, by rw [← List.take_append_getElem hjl, reg_snoc, ← Hy.out, ← Hu.out, Hz.out, rb_byte], by omega, by go_num, rfl⟩
          case measure => simp [intOf]; omega
    · go_wp2_with fail
      go_ret
      exact ⟨ret_w (by rw [Hy.out, List.take_of_length_le (by rw [Hl.out]; omega)]), rfl⟩

theorem register_at (A : Option Addr) (n cp : Nat) (l : List UInt8) (z : Int) (c : W32) (hz : z = (c.toNat : Int)) (w : World) (hs : Sl w 1 A n cp (cells l)) :
    Calls Tryd.prog 22 #[.int .u32 z, .slice A n cp] w fun e w' => e = .returned (.int .u32 ((reg c l).toNat : Int)) ∧ w = w' := by
  subst hz
  exact register_any A n cp l c w hs

set_option maxHeartbeats 400000 in
set_option maxRecDepth 20000 in
theorem rturned_any (c : W32) (w : World) : Calls Tryd.prog 21 #[.int .u32 (c.toNat : Int)] w fun e w' => e = .returned (.int .u32 ((~~~c).toNat : Int)) ∧ w = w' := by
  have hc := toNat_lt32 c
  have hnw := not_w c
  have Hnw := Lib.hid hnw; clear hnw
  go_enter Tryd.func21, Tryd.ntmps21
  go_wp2_with fail
  go_ret
  exact ⟨ret_z Hnw.out, rfl⟩
theorem rturned_at (z : Int) (c : W32) (hz : z = (c.toNat : Int)) (w : World) : Calls Tryd.prog 21 #[.int .u32 z] w fun e w' => e = .returned (.int .u32 ((~~~c).toNat : Int)) ∧ w = w' := by
  subst hz
  exact rturned_any c w

set_option maxHeartbeats 400000 in
set_option maxRecDepth 20000 in
theorem noughts_any (n : Int) (hn : n ≤ 3000) (w : World) : Calls Tryd.prog 24 #[.int .i64 n] w fun e w' => ∃ A, e = .returned (.slice A n.toNat n.toNat) ∧ Sl w' 1 A n.toNat n.toNat (cells (List.replicate n.toNat 0)) ∧ Below w.heap.size w w' := by
  by_cases h : 0 < n
  · obtain ⟨k, rfl⟩ := Int.eq_ofNat_of_zero_le (show 0 ≤ n by omega)
    rw [Int.toNat_natCast]
    have hmk := make_eq (k : Int) k rfl (by omega)
    go_enter Tryd.func24, Tryd.ntmps24
    go_wp2_with fail
    go_ret
    exact ⟨_, rfl, Sl.noughts w k (by unfold maxLen; omega), (Below.refl _ _).alloc (Nat.le_refl _) _⟩
  · rw [show n.toNat = 0 from by omega]
    have hmk := make_eq 0 0 rfl (by omega)
    go_enter Tryd.func24, Tryd.ntmps24
    go_wp2_with fail
    go_ret
    exact ⟨_, rfl, Sl.noughts w 0 (by decide), (Below.refl _ _).alloc (Nat.le_refl _) _⟩

set_option maxHeartbeats 400000 in
set_option maxRecDepth 20000 in
theorem rmore_any (A : Option Addr) (n cp : Nat) (l : List UInt8) (c : W32) (w : World) (hs : Sl w 1 A n cp (cells l)) :
    Calls Tryd.prog 13 #[.int .u32 (c.toNat : Int), .slice A n cp] w fun e w' => e = .returned (.int .u32 ((more c l).toNat : Int)) ∧ w = w' := by
  have Hs := Lib.hid hs; clear hs
  obtain ⟨d, hd⟩ : ∃ d : W32, d = ~~~c := ⟨_, rfl⟩
  obtain ⟨q, hq⟩ : ∃ q : W32, q = ~~~reg d l := ⟨_, rfl⟩
  have Hd := Lib.hid hd; clear hd
  have Hq := Lib.hid hq; clear hq
  go_enter Tryd.func13, Tryd.ntmps13
  go_wp2_with fail
  refine (rturned_any c _).mono ?_; rintro e w' ⟨he, rfl⟩
  rw [← Hd.out] at he
  subst he
  go_wp2_with fail
  refine (register_any A n cp l d _ Hs.out).mono ?_; rintro e w' ⟨rfl, rfl⟩
  go_wp2_with fail
  refine (rturned_any (reg d l) _).mono ?_; rintro e w' ⟨he, rfl⟩
  rw [← Hq.out] at he
  subst he
  go_wp2_with fail
  go_ret
  exact ⟨ret_w (by rw [Hq.out, Hd.out, more]), rfl⟩

set_option maxHeartbeats 400000 in
set_option maxRecDepth 20000 in
theorem rsum_any (A : Option Addr) (n cp : Nat) (l : List UInt8) (w : World) (hs : Sl w 1 A n cp (cells l)) :
    Calls Tryd.prog 11 #[.slice A n cp] w fun e w' => e = .returned (.int .u32 ((more 0 l).toNat : Int)) ∧ w = w' := by
  have Hs := Lib.hid hs; clear hs
  go_enter Tryd.func11, Tryd.ntmps11
  go_wp2_with fail
  refine (rmore_any A n cp l 0 _ Hs.out).mono ?_; rintro e w' ⟨rfl, rfl⟩
  go_wp2_with fail
  go_ret
  exact ⟨rfl, rfl⟩

set_option maxHeartbeats 400000 in
set_option maxRecDepth 20000 in
theorem rzeros_any (c : W32) (n : Int) (hn : n ≤ 3000) (w : World) :
    Calls Tryd.prog 15 #[.int .u32 (c.toNat : Int), .int .i64 n] w fun e w' => e = .returned (.int .u32 ((zeros c n.toNat).toNat : Int)) ∧ Below w.heap.size w w' := by
  have e1 := Lib.hid (show more c (List.replicate n.toNat 0) = zeros c n.toNat by unfold more zeros; rw [reg_noughts])
  go_enter Tryd.func15, Tryd.ntmps15
  go_wp2_with fail
  refine (noughts_any n hn _).mono ?_; rintro e w1 ⟨A, rfl, hs, hb⟩
  have Hs := Lib.hid hs; clear hs
  go_wp2_with fail
  refine (rmore_any A _ _ _ c _ Hs.out).mono ?_; rintro e w' ⟨rfl, rfl⟩
  go_wp2_with fail
  go_ret
  exact ⟨ret_w e1.out, hb⟩

set_option maxHeartbeats 400000 in
set_option maxRecDepth 20000 in
theorem rjoin_any (a b : W32) (n : Int) (hn : n ≤ 3000) (w : World) :
    Calls Tryd.prog 17 #[.int .u32 (a.toNat : Int), .int .u32 (b.toNat : Int), .int .i64 n] w fun e w' => e = .returned (.int .u32 ((joinW a b n.toNat).toNat : Int)) ∧ Below w.heap.size w w' := by
  have e1 := Lib.hid (show reg a (List.replicate n.toNat 0) ^^^ b = joinW a b n.toNat by unfold joinW; rw [reg_noughts])
  go_enter Tryd.func17, Tryd.ntmps17
  go_wp2_with fail
  refine (noughts_any n hn _).mono ?_; rintro e w1 ⟨A, rfl, hs, hb⟩
  have Hs := Lib.hid hs; clear hs
  go_wp2_with fail
  refine (register_any A _ _ _ a _ Hs.out).mono ?_; rintro e w' ⟨rfl, rfl⟩
  go_wp2_with fail
  go_ret
  exact ⟨ret_z (by rw [xor_w, e1.out]), hb⟩

set_option maxHeartbeats 400000 in
set_option maxRecDepth 20000 in
theorem rchanged_any (c : W32) (A : Option Addr) (n cp : Nat) (l : List UInt8) (k : Int) (hk : k ≤ 3000) (w : World) (hs : Sl w 1 A n cp (cells l)) :
    Calls Tryd.prog 19 #[.int .u32 (c.toNat : Int), .slice A n cp, .int .i64 k] w fun e w' => e = .returned (.int .u32 ((turnedW c l k.toNat).toNat : Int)) ∧ Below w.heap.size w w' := by
  have Hs := Lib.hid hs; clear hs
  have e1 := Lib.hid (show c ^^^ reg (reg 0 l) (List.replicate k.toNat 0) = turnedW c l k.toNat by unfold turnedW; rw [reg_noughts])
  go_enter Tryd.func19, Tryd.ntmps19
  go_wp2_with fail
  refine (register_any A n cp l 0 _ Hs.out).mono ?_; rintro e w' ⟨rfl, rfl⟩
  go_wp2_with fail
  refine (noughts_any k hk _).mono ?_; rintro e w1 ⟨A1, rfl, h1, hb⟩
  have H1 := Lib.hid h1; clear h1
  go_wp2_with fail
  refine (register_any A1 _ _ _ (reg 0 l) _ H1.out).mono ?_; rintro e w' ⟨rfl, rfl⟩
  go_wp2_with fail
  go_ret
  exact ⟨ret_z (by rw [xor_w]; exact congrArg (fun q : W32 => (q.toNat : Int)) e1.out), hb⟩
end Go.Proofs.YtpmjpagmddjjaaaDoor

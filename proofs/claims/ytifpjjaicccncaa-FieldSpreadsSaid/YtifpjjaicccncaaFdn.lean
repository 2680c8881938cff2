/-
  FieldSpreads returns true, whatever its arguments. No condition. (Written by gen_fdn.py.)
-/
import Derived.Test.YtifpjjaicccncaaFdl
namespace Go.Proofs.Ytifpjjaicccncaa
open Go.RowKit
set_option linter.unusedVariables false

theorem map_one (r : List UInt8) : r.map (gm 1) = r := by
  have : gm 1 = id := by funext x; exact one_gm x
  rw [this, List.map_id]
theorem fld_map (a b : UInt8) (r : List UInt8) : fld b r (r.map (gm a)) = r.map (gm (a ^^^ b)) := by
  apply List.ext_getElem
  · simp [fld]
  · intro i h1 h2
    have h3 : i < r.length := by simpa using h2
    simp [fld, h3, xor_gm]
theorem fld_gone (a : UInt8) (r : List UInt8) : fld a r (r.map (gm a)) = List.replicate r.length 0 := by
  rw [fld_map]
  apply List.ext_getElem
  · simp
  · intro i h1 h2
    simp [zero_gm]
theorem Mine.offT {w : World} {T B n : Nat} {A : Option Addr} {xs : List Value} {e : TypeId} (hm : Mine w B e A n xs) (hT : T < B) : Off T A n := fun b o hn hA => by
  obtain ⟨g, cur, hA', hB, _⟩ := hm hn
  rw [hA] at hA'
  injection hA' with hA'
  injection hA' with hA' _
  omega
theorem scale_at (x : Int) (F T : Nat) (c : UInt8) (hx : x = (c.toNat : Int)) (A : Option Addr) (m cq : Nat) (r : List UInt8) (w : World) (h : Fld w F T) (hr : Sl w 1 A m cq (cells r)) (ho : Off T A m) (hm30 : m ≤ 1073741824) :
    Calls Try.prog 17 #[.pointer (some ⟨F, 0, none⟩), .int .u8 x, .slice A m cq] w fun e w' => Fld1 w' F T ∧ RetFr (Ft T) w (r.map (gm c)) e w' := by
  subst hx
  exact scale_any F T c A m cq r w h hr ho hm30

set_option maxRecDepth 20000 in
set_option maxHeartbeats 3200000 in
theorem fieldSpreads_walk (a b : UInt8) (A : Option Addr) (n cp : Nat) (r : List UInt8) (w : World) (hr : Sl w 1 A n cp (cells r)) :
    Calls Try.prog 8 #[.int .u8 (a.toNat : Int), .int .u8 (b.toNat : Int), .slice A n cp] w (SaysTrue w) := by
  have hn := hr.lim
  unfold maxLen at hn
  have hrl := hr.len
  rw [cells_length, Nat.mul_one] at hrl
  have Hrl := Lib.hid hrl; clear hrl
  have Hr := Lib.hid hr; clear hr
  by_cases hbig : n > 2000
  · have d1 : decide ((n : Int) > 2000) = true := by simp; omega
    go_enter Try.func8, Try.ntmps8
    go_wp2_with fail
    refine (reckons_any _).mono ?_; rintro e w1 ⟨rfl, hb⟩
    go_wp2_with fail
    go_ret
    exact ⟨rfl, hb⟩
  have hn2 : n ≤ 2000 := by omega
  have d1 : decide ((n : Int) > 2000) = false := by simp; omega
  go_enter Try.func8, Try.ntmps8
  go_wp2_with fail
  refine (new_any _).mono ?_; rintro e w1 ⟨rfl, hf, hb⟩
  have hT1 := hf.ltT
  have I1 := Lib.hid (In.new hf hb (Below.refl _ _) (Nat.le_refl _)); clear hf hb
  have Orr := Lib.hid (Hr.out.offT (Nat.le_refl _))
  -- twice
  go_wp2_with fail
  have hh := scale_any _ _ a A n cp r _ I1.out.fld (Hr.out.below I1.out.below (Nat.le_refl _)) Orr.out (by omega)
  refine hh.mono ?_; clear hh; rintro e w2 ⟨hf, A2, n2, c2, rfl, hs2, hfr2, hm2⟩
  have I2 := Lib.hid (I1.out.next hf hfr2); clear hf
  have hl2 := hs2.len
  rw [cells_length, List.length_map, Hrl.out, Nat.mul_one] at hl2
  subst hl2
  go_wp2_with fail
  have hh := fold_any _ _ b A n cp r A2 n c2 _ _ I2.out.fld (Hr.out.below I2.out.below (Nat.le_refl _)) Orr.out hs2 (hm2.offT hT1) (by omega)
  refine hh.mono ?_; clear hh; rintro e w3 ⟨hf, A3, n3, c3, rfl, hs3, hfr3, hm3⟩
  have I3 := Lib.hid (I2.out.next hf hfr3); clear hf hfr2 hfr3 hs2 hm2
  rw [fld_map] at hs3 hm3
  have L3 := Lib.hid I2.out.fld.ltT
  have K3 := Lib.hid hs3
  have M3 := Lib.hid hm3; clear hs3 hm3
  -- once
  go_wp2_with fail
  have hh := scale_at _ _ _ (a ^^^ b) (xor_b a b) A n cp r _ I3.out.fld (Hr.out.below I3.out.below (Nat.le_refl _)) Orr.out (by omega)
  refine hh.mono ?_; clear hh; rintro e w4 ⟨hf, A4, n4, c4, rfl, hs4, hfr4, hm4⟩
  have I4 := Lib.hid (I3.out.next hf hfr4); clear hf
  have L4 := Lib.hid I3.out.fld.ltT
  have K4 := Lib.hid hs4
  have M4 := Lib.hid hm4; clear hs4 hm4
  -- gone
  go_wp2_with fail
  have hh := scale_any _ _ a A n cp r _ I4.out.fld (Hr.out.below I4.out.below (Nat.le_refl _)) Orr.out (by omega)
  refine hh.mono ?_; clear hh; rintro e w5 ⟨hf, A5, n5, c5, rfl, hs5, hfr5, hm5⟩
  have I5 := Lib.hid (I4.out.next hf hfr5); clear hf
  have hl5 := hs5.len
  rw [cells_length, List.length_map, Hrl.out, Nat.mul_one] at hl5
  subst hl5
  go_wp2_with fail
  have hh := fold_any _ _ a A n cp r A5 n c5 _ _ I5.out.fld (Hr.out.below I5.out.below (Nat.le_refl _)) Orr.out hs5 (hm5.offT I4.out.fld.ltT) (by omega)
  refine hh.mono ?_; clear hh; rintro e w6 ⟨hf, A6, n6, c6, rfl, hs6, hfr6, hm6⟩
  have I6 := Lib.hid (I5.out.next hf hfr6); clear hf
  rw [fld_gone, Hrl.out] at hs6 hm6
  have hl6 := hs6.len
  rw [cells_length, List.length_replicate, Nat.mul_one] at hl6
  subst hl6
  have F4 := Lib.hid (hfr5.trans hfr6)
  have F3 := Lib.hid (hfr4.trans (hfr5.trans hfr6))
  have K6 := Lib.hid hs6
  clear hfr4 hfr5 hfr6 hs5 hm5 hs6 hm6
  go_wp2_with fail
  go_loopw [11] (fun i wr => ∃ k : Nat, k ≤ n ∧ i = .int .i64 (k : Int) ∧ wr = w6) (fun i _ => n - (intOf i).toNat)
  case atStart => exact ⟨0, by omega, rfl, rfl⟩
  case round =>
    obtain ⟨k, hk, rfl, rfl⟩ := hrel
    by_cases hlt : k < n
    · obtain ⟨b1, o1, rfl, hc⟩ := K6.out.at_ hlt
      have hcell := hc k _ (cells_get _ k (by rw [List.length_replicate]; exact hlt))
      have Hc := Lib.hid hc; clear hc
      rw [List.getElem_replicate, bv] at hcell
      go_wp2_with fail
      go_roundw
      case rel => exact ⟨k + 1, by omega, by go_num, trivial⟩
      case measure => simp [intOf]; omega
    · obtain rfl : k = n := by omega
      have Id := Lib.hid (I6.out.later (Below.drew (Below.refl _ _)))
      go_wp2_with fail
      refine wp_region_held_drew (S := fun w' => Fr (Ft w.heap.size) wr.drew w') (by kernel_rfl) (Fr.refl _ _) (fun hHeld => ?_)
      clear hHeld
      refine wpAnyH_take (i := 0) (oi := ⟨some 50, _, _, _, _, _⟩) (v := ?vg0) rfl (by kernel_rfl) (by kernel_rfl) (by kernel_rfl) (fun _ _ _ h => h) (Or.inl ⟨by rfl, ?yg0⟩) (Fr.refl _ _) ?rg0
      case yg0 =>
        intro wq hSw
        (try dsimp only at hSw)
        first | (go_simp; done) | (go_simp; with_reducible rfl)
      try simp only [Act.put, List.setIfInBounds_toArray, List.set_cons_zero, List.set_cons_succ]
      refine wpAnyH_take (i := 1) (oi := ⟨some 51, _, _, _, _, _⟩) (v := ?vg1) rfl (by kernel_rfl) (by kernel_rfl) (by kernel_rfl) (fun _ _ _ h => h) (Or.inl ⟨by rfl, ?yg1⟩) (Fr.refl _ _) ?rg1
      case yg1 =>
        intro wq hSw
        (try dsimp only at hSw)
        first | (go_simp; done) | (go_simp; with_reducible rfl)
      try simp only [Act.put, List.setIfInBounds_toArray, List.set_cons_zero, List.set_cons_succ]
      refine wpAnyH_take (i := 2) (oi := ⟨some 52, _, _, _, _, _⟩) (v := ?vg2) rfl (by kernel_rfl) (by kernel_rfl) (by kernel_rfl) (fun _ _ _ h => h) (Or.inl ⟨by rfl, ?yg2⟩) (Fr.refl _ _) ?rg2
      case yg2 =>
        intro wq hSw
        (try dsimp only at hSw)
        first | (go_simp; done) | (go_simp; with_reducible rfl)
      try simp only [Act.put, List.setIfInBounds_toArray, List.set_cons_zero, List.set_cons_succ]
      refine wpAnyH_take (i := 3) (oi := ⟨some 53, _, _, _, _, _⟩) (v := ?vg3) rfl (by kernel_rfl) (by kernel_rfl) (by kernel_rfl) (fun _ _ _ h => h) (Or.inl ⟨by rfl, ?yg3⟩) (Fr.refl _ _) ?rg3
      case yg3 =>
        intro wq hSw
        (try dsimp only at hSw)
        first | (go_simp; done) | (go_simp; with_reducible rfl)
      try simp only [Act.put, List.setIfInBounds_toArray, List.set_cons_zero, List.set_cons_succ]
      refine wpAnyH_take (i := 4) (oi := ⟨some 54, _, _, _, _, _⟩) (v := ?vg4) rfl (by kernel_rfl) (by kernel_rfl) (by kernel_rfl) (fun _ _ _ h => h) (Or.inl ⟨by rfl, ?yg4⟩) (Fr.refl _ _) ?rg4
      case yg4 =>
        intro wq hSw
        (try dsimp only at hSw)
        first | (go_simp; done) | (go_simp; with_reducible rfl)
      try simp only [Act.put, List.setIfInBounds_toArray, List.set_cons_zero, List.set_cons_succ]
      refine wpAnyH_take (i := 5) (oi := ⟨some 55, _, _, _, _, _⟩) (v := ?vg5) rfl (by kernel_rfl) (by kernel_rfl) (by kernel_rfl) (fun _ _ _ h => h) (Or.inl ⟨by rfl, ?yg5⟩) (Fr.refl _ _) ?rg5
      case yg5 =>
        intro wq hSw
        (try dsimp only at hSw)
        first | (go_simp; done) | (go_simp; with_reducible rfl)
      try simp only [Act.put, List.setIfInBounds_toArray, List.set_cons_zero, List.set_cons_succ]
      refine wpAnyH_take (i := 6) (oi := ⟨some 56, _, _, _, _, _⟩) (v := ?vg6) rfl (by kernel_rfl) (by kernel_rfl) (by kernel_rfl) (fun _ _ _ h => h) (Or.inl ⟨by rfl, ?yg6⟩) (Fr.refl _ _) ?rg6
      case yg6 =>
        intro wq hSw
        (try dsimp only at hSw)
        first | (go_simp; done) | (go_simp; with_reducible rfl)
      try simp only [Act.put, List.setIfInBounds_toArray, List.set_cons_zero, List.set_cons_succ]
      refine wpAnyH_take (i := 7) (oi := ⟨some 57, _, _, _, _, _⟩) (v := ?vg7) rfl (by kernel_rfl) (by kernel_rfl) (by kernel_rfl) (fun _ _ _ h => h) (Or.inl ⟨by rfl, ?yg7⟩) (Fr.refl _ _) ?rg7
      case yg7 =>
        intro wq hSw
        (try dsimp only at hSw)
        have k := str_of (M3.out.slFr K3.out (F3.out.trans (Fr.drew (Fr.refl _ _) |>.trans hSw)) (by rintro k rfl; exact L3.out))
        first | (go_simp; done) | (go_simp; with_reducible rfl)
      try simp only [Act.put, List.setIfInBounds_toArray, List.set_cons_zero, List.set_cons_succ]
      refine wpAnyH_take (i := 8) (oi := ⟨some 58, _, _, _, _, _⟩) (v := ?vg8) rfl (by kernel_rfl) (by kernel_rfl) (by kernel_rfl) (fun _ _ _ h => h) (Or.inl ⟨by rfl, ?yg8⟩) (Fr.refl _ _) ?rg8
      case yg8 =>
        intro wq hSw
        (try dsimp only at hSw)
        first | (go_simp; done) | (go_simp; with_reducible rfl)
      try simp only [Act.put, List.setIfInBounds_toArray, List.set_cons_zero, List.set_cons_succ]
      refine wpAnyH_take (i := 9) (oi := ⟨some 59, _, _, _, _, _⟩) (v := ?vg9) rfl (by kernel_rfl) (by kernel_rfl) (by kernel_rfl) (fun _ _ _ h => h) (Or.inl ⟨by rfl, ?yg9⟩) (Fr.refl _ _) ?rg9
      case yg9 =>
        intro wq hSw
        (try dsimp only at hSw)
        have k := str_of (M4.out.slFr K4.out (F4.out.trans (Fr.drew (Fr.refl _ _) |>.trans hSw)) (by rintro k rfl; exact L4.out))
        first | (go_simp; done) | (go_simp; with_reducible rfl)
      try simp only [Act.put, List.setIfInBounds_toArray, List.set_cons_zero, List.set_cons_succ]
      refine wpAnyH_take (i := 10) (oi := ⟨some 60, _, _, _, _, _⟩) (v := ?vg10) rfl (by kernel_rfl) (by kernel_rfl) (by kernel_rfl) (fun _ _ _ h => h) (Or.inl ⟨by rfl, ?yg10⟩) (Fr.refl _ _) ?rg10
      case yg10 =>
        intro wq hSw
        (try dsimp only at hSw)
        first | (go_simp; done) | (go_simp; with_reducible rfl)
      try simp only [Act.put, List.setIfInBounds_toArray, List.set_cons_zero, List.set_cons_succ]
      refine wpAnyH_take (i := 11) (oi := ⟨some 61, _, _, _, _, _⟩) (v := ?vg11) rfl (by kernel_rfl) (by kernel_rfl) (by kernel_rfl) (fun _ _ _ h => h) (Or.inl ⟨by rfl, ?yg11⟩) (Fr.refl _ _) ?rg11
      case yg11 =>
        intro wq hSw
        (try dsimp only at hSw)
        first | (go_simp; done) | (go_simp; with_reducible rfl)
      try simp only [Act.put, List.setIfInBounds_toArray, List.set_cons_zero, List.set_cons_succ]
      refine wpAnyH_take (i := 12) (oi := ⟨some 62, _, _, _, _, _⟩) (v := ?vg12) rfl (by kernel_rfl) (by kernel_rfl) (by kernel_rfl) (fun _ _ _ h => h) (Or.inl ⟨by rfl, ?yg12⟩) (Fr.refl _ _) ?rg12
      case yg12 =>
        intro wq hSw
        (try dsimp only at hSw)
        first | (go_simp; done) | (go_simp; with_reducible rfl)
      try simp only [Act.put, List.setIfInBounds_toArray, List.set_cons_zero, List.set_cons_succ]
      refine wpAnyH_take (i := 13) (oi := ⟨some 63, _, _, _, _, _⟩) (v := ?vg13) rfl (by kernel_rfl) (by kernel_rfl) (by kernel_rfl) (fun _ _ _ h => h) (Or.inl ⟨by rfl, ?yg13⟩) (Fr.refl _ _) ?rg13
      case yg13 =>
        intro wq hSw
        (try dsimp only at hSw)
        first | (go_simp; done) | (go_simp; with_reducible rfl)
      try simp only [Act.put, List.setIfInBounds_toArray, List.set_cons_zero, List.set_cons_succ]
      refine wpAnyH_take (i := 14) (oi := ⟨some 64, _, _, _, _, _⟩) (v := ?vg14) rfl (by kernel_rfl) (by kernel_rfl) (by kernel_rfl) (fun _ _ _ h => h) (Or.inl ⟨by rfl, ?yg14⟩) (Fr.refl _ _) ?rg14
      case yg14 =>
        intro wq hSw
        (try dsimp only at hSw)
        first | (go_simp; done) | (go_simp; with_reducible rfl)
      try simp only [Act.put, List.setIfInBounds_toArray, List.set_cons_zero, List.set_cons_succ]
      refine wpAnyH_take (i := 17) (oi := ⟨some 67, _, _, _, _, _⟩) (v := ?vg17) rfl (by kernel_rfl) (by kernel_rfl) (by kernel_rfl) (fun _ _ _ h => h) (Or.inl ⟨by rfl, ?yg17⟩) (Fr.refl _ _) ?rg17
      case yg17 =>
        intro wq hSw
        (try dsimp only at hSw)
        first | (go_simp; done) | (go_simp; with_reducible rfl)
      try simp only [Act.put, List.setIfInBounds_toArray, List.set_cons_zero, List.set_cons_succ]
      refine wpAnyH_take (i := 18) (oi := ⟨some 68, _, _, _, _, _⟩) (v := ?vg18) rfl (by kernel_rfl) (by kernel_rfl) (by kernel_rfl) (fun _ _ _ h => h) (Or.inl ⟨by rfl, ?yg18⟩) (Fr.refl _ _) ?rg18
      case yg18 =>
        intro wq hSw
        (try dsimp only at hSw)
        have k := str_of ((Hr.out.below Id.out.below (Nat.le_refl _)).fr hSw (fun b o hn hA => Orr.out b o hn hA))
        first | (go_simp; done) | (go_simp; with_reducible rfl)
      try simp only [Act.put, List.setIfInBounds_toArray, List.set_cons_zero, List.set_cons_succ]
      refine wpAnyH_ready (rs := [15]) (by kernel_rfl) (by simp) ?_
      refine AllReadyH.cons (o := ⟨some 65, _, _, _, _, _⟩) rfl (fun K hK => ?_) AllReadyH.nil
      go_simp
      have hh := scale_at 1 _ _ 1 rfl A k cp r _ Id.out.fld (Hr.out.below Id.out.below (Nat.le_refl _)) Orr.out (by omega)
      refine hh.mono ?_; clear hh; rintro e w8 ⟨hf, A7, n7, c7, rfl, hs7, hfr, hm7⟩
      rw [map_one] at hs7 hm7
      have I8 := Lib.hid (Id.out.next hf hfr); clear hf
      have K7 := Lib.hid hs7
      have M7 := Lib.hid hm7; clear hs7 hm7
      go_wp2_with fail
      refine hK.out _ _ hfr (fun hHeld => ?_)
      clear hK K hHeld
      try simp only [Act.put, List.setIfInBounds_toArray, List.set_cons_zero, List.set_cons_succ]
      refine wpAnyH_re (S' := fun w' => Fr (Ft w.heap.size) w8 w') (fun w' h => hfr.trans h) ?_
      clear hfr
      refine wpAnyH_take (i := 16) (oi := ⟨some 66, _, _, _, _, _⟩) (v := ?vg16) rfl (by kernel_rfl) (by kernel_rfl) (by kernel_rfl) (fun _ _ _ h => h) (Or.inl ⟨by rfl, ?yg16⟩) (Fr.refl _ _) ?rg16
      case yg16 =>
        intro wq hSw
        (try dsimp only at hSw)
        have k := str_of (M7.out.slFr K7.out hSw (by rintro k rfl; exact Id.out.fld.ltT))
        first | (go_simp; done) | (go_simp; with_reducible rfl)
      try simp only [Act.put, List.setIfInBounds_toArray, List.set_cons_zero, List.set_cons_succ]
      refine wpAnyH_take (i := 19) (oi := ⟨some 69, _, _, _, _, _⟩) (v := ?vg19) rfl (by kernel_rfl) (by kernel_rfl) (by kernel_rfl) (fun _ _ _ h => h) (Or.inl ⟨by rfl, ?yg19⟩) (Fr.refl _ _) ?rg19
      case yg19 =>
        intro wq hSw
        (try dsimp only at hSw)
        first | (go_simp; done) | (go_simp; with_reducible rfl)
      try simp only [Act.put, List.setIfInBounds_toArray, List.set_cons_zero, List.set_cons_succ]
      refine wpAnyH_take (i := 20) (oi := ⟨some 70, _, _, _, _, _⟩) (v := ?vg20) rfl (by kernel_rfl) (by kernel_rfl) (by kernel_rfl) (fun _ _ _ h => h) (Or.inl ⟨by rfl, ?yg20⟩) (Fr.refl _ _) ?rg20
      case yg20 =>
        intro wq hSw
        (try dsimp only at hSw)
        first | (go_simp; done) | (go_simp; with_reducible rfl)
      try simp only [Act.put, List.setIfInBounds_toArray, List.set_cons_zero, List.set_cons_succ]
      refine wpAnyH_take (i := 21) (oi := ⟨some 71, _, _, _, _, _⟩) (v := ?vg21) rfl (by kernel_rfl) (by kernel_rfl) (by kernel_rfl) (fun _ _ _ h => h) (Or.inl ⟨by rfl, ?yg21⟩) (Fr.refl _ _) ?rg21
      case yg21 =>
        intro wq hSw
        (try dsimp only at hSw)
        first | (go_simp; done) | (go_simp; with_reducible rfl)
      try simp only [Act.put, List.setIfInBounds_toArray, List.set_cons_zero, List.set_cons_succ]
      refine wpAnyH_ready (rs := [22]) (by kernel_rfl) (by simp) ?_
      refine AllReadyH.cons (o := ⟨some 72, _, _, _, _, _⟩) rfl (fun K hK => ?_) AllReadyH.nil
      go_simp
      refine (reckons_any _).mono ?_; rintro e w9 ⟨rfl, hb9⟩
      have I9 := Lib.hid (I8.out.later hb9)
      have hfr := Fr.of_below (S := Ft w.heap.size) hb9
      clear hb9
      go_wp2_with fail
      refine hK.out _ _ hfr (fun hHeld => ?_)
      clear hK K hHeld
      try simp only [Act.put, List.setIfInBounds_toArray, List.set_cons_zero, List.set_cons_succ]
      refine wpAnyH_re (S' := fun w' => Fr (Ft w.heap.size) w9 w') (fun w' h => hfr.trans h) ?_
      clear hfr
      refine wpAnyH_take (i := 23) (oi := ⟨some 73, _, _, _, _, _⟩) (v := ?vg23) rfl (by kernel_rfl) (by kernel_rfl) (by kernel_rfl) (fun _ _ _ h => h) (Or.inl ⟨by rfl, ?yg23⟩) (Fr.refl _ _) ?rg23
      case yg23 =>
        intro wq hSw
        (try dsimp only at hSw)
        first | (go_simp; done) | (go_simp; with_reducible rfl)
      try simp only [Act.put, List.setIfInBounds_toArray, List.set_cons_zero, List.set_cons_succ]
      refine wpAnyH_take (i := 24) (oi := ⟨some 6, _, _, _, _, _⟩) (v := ?vg24) rfl (by kernel_rfl) (by kernel_rfl) (by kernel_rfl) (fun _ _ _ h => h) (Or.inl ⟨by rfl, ?yg24⟩) (Fr.refl _ _) ?rg24
      case yg24 =>
        intro wq hSw
        (try dsimp only at hSw)
        first | (go_simp; done) | (go_simp; with_reducible rfl)
      try simp only [Act.put, List.setIfInBounds_toArray, List.set_cons_zero, List.set_cons_succ]
      refine wpAnyH_done (by kernel_rfl) ?_ _
      go_wp2_with fail
      go_ret
      exact ⟨rfl, I9.out.below⟩
end Go.Proofs.Ytifpjjaicccncaa

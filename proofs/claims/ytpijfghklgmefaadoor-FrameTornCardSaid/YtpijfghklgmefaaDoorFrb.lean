/-
  Contracts of package frame's told, formed, summed. Conditions: bounds; of sums: the table reads as the row lists it ('Nt').
-/
import Derived.Test.YtpijfghklgmefaaDoorFra
namespace Go.Proofs.YtpijfghklgmefaaDoor
open Go.RowKit Go.Proofs
set_option linter.unusedVariables false
set_option maxRecDepth 20000
set_option maxHeartbeats 1600000

theorem andn_nat : ∀ n : Nat, n < 256 → bits .andNot .u8 (n : Int) 2 = (((UInt8.ofNat n) &&& 253).toNat : Int) := by decide +kernel
theorem and2_nat : ∀ n : Nat, n < 256 → bits .and .u8 (n : Int) 2 = (((UInt8.ofNat n) &&& 2).toNat : Int) := by decide +kernel
theorem andn_b (u : UInt8) : bits .andNot .u8 (u.toNat : Int) 2 = ((u &&& 253).toNat : Int) := by
  have := andn_nat u.toNat u.toNat_lt
  rwa [UInt8.ofNat_toNat] at this
theorem and2_b (u : UInt8) : bits .and .u8 (u.toNat : Int) 2 = ((u &&& 2).toNat : Int) := by
  have := and2_nat u.toNat u.toNat_lt
  rwa [UInt8.ofNat_toNat] at this
theorem tdF_z (l : List UInt8) : IntKind.u32.wrap (((getN16 l 3 4).1 : Nat) : Int) = ((tdF l).toNat : Int) ∨ ¬ 7 ≤ l.length := by
  by_cases h : 7 ≤ l.length
  · left
    have e : (getN16 l 3 4).1 = leVal ((l.drop 3).take 4) := by
      unfold getN16
      rw [if_neg (by omega), if_neg (by omega)]
      rfl
    rw [e, IntKind.wrap_u32, tdF, BitVec.toNat_ofNat]
    omega
  · exact .inr h
theorem told_any (A : Option Addr) (n c : Nat) (l : List UInt8) (w : World) (h : Sl w 1 A n c (cells l)) (h7 : 7 ≤ n) :
    Calls Tryd.prog 25 #[.slice A n c] w fun e w' => e = .returned (.int .u32 ((tdF l).toNat : Int)) ∧ w = w' := by
  have hl := h.len
  rw [cells_length, Nat.mul_one] at hl
  have hg := get_any16 A n c l 3 4 w h
  have hz := (tdF_z l).resolve_right (by omega)
  obtain ⟨x, hx⟩ : ∃ x, x = getN16 l 3 4 := ⟨_, rfl⟩
  rw [← hx] at hg hz
  have HZ := Lib.hid hz
  clear hz hx hl h
  go_enter Tryd.func25, Tryd.ntmps25
  go_wp2_with fail
  refine hg.mono ?_; clear hg; rintro e w' ⟨rfl, hw'⟩
  obtain rfl : w = w' := hw'
  go_wp2_with fail
  go_ret
  exact ⟨ret_z HZ.out, rfl⟩
theorem formed_few (A : Option Addr) (n c : Nat) (b : Bool) (w : World) (h7 : n < 7) :
    Calls Tryd.prog 26 #[.slice A n c, .bool b] w fun e w' => e = .returned (.bool false) ∧ w = w' := by
  have q : (n : Int) < 7 := by omega
  go_enter Tryd.func26, Tryd.ntmps26
  go_wp2_with fail
  go_ret
  exact ⟨rfl, rfl⟩
theorem fmB_eq (l : List UInt8) (a : Bool) (h7 : 7 ≤ l.length) (u : UInt8) (hu : l[0]? = some u) : fmB l a = (decide (((l.length - 7 : Nat) : Int) = (((getN16 l 1 2).1 : Nat) : Int)) && decide (((u &&& 253).toNat : Int) = if a then 1 else 0)) := by
  have e : (getN16 l 1 2).1 = leVal ((l.drop 1).take 2) := by
    unfold getN16
    rw [if_neg (by omega), if_neg (by omega)]
    rfl
  rw [fmB, decide_eq_true h7, Bool.true_and, e, List.getD_eq_getElem?_getD, hu, Option.getD_some]
  congr 1
  · exact decide_eq_decide.2 (by omega)
  · refine decide_eq_decide.2 ?_
    cases a
    · rw [if_neg (by decide), if_neg (by decide)]
      rw [← UInt8.toNat_inj]
      show _ = 0 ↔ _
      omega
    · rw [if_pos rfl, if_pos rfl]
      rw [← UInt8.toNat_inj]
      show _ = 1 ↔ _
      omega
theorem formed_any (A : Option Addr) (n c : Nat) (l : List UInt8) (a : Bool) (w : World) (h : Sl w 1 A n c (cells l)) :
    Calls Tryd.prog 26 #[.slice A n c, .bool a] w fun e w' => e = .returned (.bool (fmB l a)) ∧ w = w' := by
  have hl := h.len
  rw [cells_length, Nat.mul_one] at hl
  by_cases h7 : n < 7
  · refine (formed_few A n c a w h7).mono ?_
    rintro e w' ⟨rfl, hw⟩
    refine ⟨?_, hw⟩
    rw [fmB, decide_eq_false (by omega), Bool.false_and]
  · have hq : ¬ (n : Int) < 7 := by omega
    have hlim := h.lim
    unfold maxLen at hlim
    have hg := get_any16 A n c l 1 2 w h
    obtain ⟨u, hu⟩ : ∃ u, l[0]? = some u := ⟨l[0], List.getElem?_eq_getElem (by omega)⟩
    obtain ⟨b, o, rfl, hc⟩ := h.at_ (k := 0) (by omega)
    have hcell : w.cell? ⟨b, o, none⟩ = some (.int .u8 (u.toNat : Int)) := by
      have := hc 0 (bv u) (by simp [cells, hu])
      rwa [Nat.add_zero] at this
    have he := fmB_eq l a (by omega) u hu
    rw [hl] at he
    have hx2 : (getN16 l 1 2).1 < 256 ^ 2 := getN16_lt l 1 2
    obtain ⟨x, hx⟩ : ∃ x, x = getN16 l 1 2 := ⟨_, rfl⟩
    rw [← hx] at hg he hx2
    have HE := Lib.hid he
    have e1 : IntKind.u64.wrap ((n : Int) - 7) = ((n - 7 : Nat) : Int) := by rw [IntKind.wrap_u64]; omega
    have e2 : wrap64 ((n : Int) - 7) = (n : Int) - 7 := by unfold wrap64; omega
    have e3 := andn_b u
    obtain ⟨v, hv⟩ : ∃ v, v = u &&& 253 := ⟨_, rfl⟩
    rw [← hv] at e3 HE
    obtain ⟨m, hm⟩ : ∃ m, m = n - 7 := ⟨_, rfl⟩
    rw [← hm] at e1 HE
    have HM := Lib.hid hm
    clear he hx hu hc h hv hl hx2 hm
    cases a
    all_goals
      by_cases hd : m = x.1
      all_goals
        have q1 : ((m : Int) == ((x.1 : Nat) : Int)) = decide (m = x.1) := by
          by_cases hh : m = x.1 <;> simp [hh]; omega
        have HD := Lib.hid hd
        have Q1 := Lib.hid q1
        clear hd q1
        go_enter Tryd.func26, Tryd.ntmps26
        go_wp2_with fail
        refine hg.mono ?_; clear hg; rintro e w' ⟨rfl, hw'⟩
        obtain rfl : w = w' := hw'
        have q1 := Q1.out
        have hd := HD.out
        go_wp2_with fail
        go_ret
        refine ⟨?_, rfl⟩
        rw [HE.out]
        simp_all
        all_goals (first | done | rfl | (rw [Bool.eq_iff_iff]; simp only [beq_iff_eq, decide_eq_true_iff]; omega))
theorem summed_seven (A : Option Addr) (l : List UInt8) (s : W32) (w : World) (h : Sl w 1 A 7 7 (cells l)) (hN : Nt w) :
    Calls Tryd.prog 27 #[.int .u32 (s.toNat : Int), .slice A 7 7] w fun e w' => e = .returned (.int .u32 ((smP s l).toNat : Int)) ∧ Below w.heap.size w w' := by
  have hl := h.len
  rw [cells_length, Nat.mul_one] at hl
  have s1 := h.sub1 0 3 7 (by omega) (by omega) (by omega) (by unfold maxLen; omega)
  have s2 : Sl w 1 A 0 0 (cells (l.drop 7)) := by
    rw [List.drop_eq_nil_of_le (by omega)]
    exact Sl.empty _ _ _ _ (by unfold maxLen; omega)
  obtain ⟨b, o, rfl, hc⟩ := h.at_ (k := 0) (by omega)
  rw [show (3 : Nat) - 0 = 3 from rfl, List.drop_zero] at s1
  have S1 := Lib.hid s1.drew
  have S2 := Lib.hid s2.drew
  have NW := Lib.hid (show Nt w.drew from hN.keep (Below.drew (Below.refl _ _)))
  have SM := Lib.hid (show smP s l = more (more s (l.take 3)) (l.drop 7) from rfl)
  clear s1 s2 hN hl hc h
  go_enter Tryd.func27, Tryd.ntmps27
  go_wp2_with fail
  refine wp_region_held_drew (S := fun w' => Fr (fun _ => False) w.drew w') (by kernel_rfl) (Fr.refl _ _) (fun hHeld => ?_)
  clear hHeld
  refine wpAnyH_take (i := 0) (oi := ⟨some 5, _, _, _, _, _⟩) (v := ?vsum0) rfl (by kernel_rfl) (by kernel_rfl) (by kernel_rfl) (fun _ _ _ h => h) (Or.inl ⟨by rfl, ?ysum0⟩) (Fr.refl _ _) ?rsum0
  case ysum0 =>
    intro wq hSw
    (try dsimp only at hSw)
    first | (go_simp; done) | (go_simp; with_reducible rfl)
  try simp only [Act.put, List.setIfInBounds_toArray, List.set_cons_zero, List.set_cons_succ]
  refine wpAnyH_take (i := 1) (oi := ⟨some 6, _, _, _, _, _⟩) (v := ?vsum1) rfl (by kernel_rfl) (by kernel_rfl) (by kernel_rfl) (fun _ _ _ h => h) (Or.inl ⟨by rfl, ?ysum1⟩) (Fr.refl _ _) ?rsum1
  case ysum1 =>
    intro wq hSw
    (try dsimp only at hSw)
    first | (go_simp; done) | (go_simp; with_reducible rfl)
  try simp only [Act.put, List.setIfInBounds_toArray, List.set_cons_zero, List.set_cons_succ]
  refine wpAnyH_take (i := 2) (oi := ⟨some 7, _, _, _, _, _⟩) (v := ?vsum2) rfl (by kernel_rfl) (by kernel_rfl) (by kernel_rfl) (fun _ _ _ h => h) (Or.inl ⟨by rfl, ?ysum2⟩) (Fr.refl _ _) ?rsum2
  case ysum2 =>
    intro wq hSw
    (try dsimp only at hSw)
    first | (go_simp; done) | (go_simp; with_reducible rfl)
  try simp only [Act.put, List.setIfInBounds_toArray, List.set_cons_zero, List.set_cons_succ]
  refine wpAnyH_take (i := 4) (oi := ⟨some 9, _, _, _, _, _⟩) (v := ?vsum4) rfl (by kernel_rfl) (by kernel_rfl) (by kernel_rfl) (fun _ _ _ h => h) (Or.inl ⟨by rfl, ?ysum4⟩) (Fr.refl _ _) ?rsum4
  case ysum4 =>
    intro wq hSw
    (try dsimp only at hSw)
    first | (go_simp; done) | (go_simp; with_reducible rfl)
  try simp only [Act.put, List.setIfInBounds_toArray, List.set_cons_zero, List.set_cons_succ]
  refine wpAnyH_take (i := 5) (oi := ⟨some 10, _, _, _, _, _⟩) (v := ?vsum5) rfl (by kernel_rfl) (by kernel_rfl) (by kernel_rfl) (fun _ _ _ h => h) (Or.inl ⟨by rfl, ?ysum5⟩) (Fr.refl _ _) ?rsum5
  case ysum5 =>
    intro wq hSw
    (try dsimp only at hSw)
    first | (go_simp; done) | (go_simp; with_reducible rfl)
  try simp only [Act.put, List.setIfInBounds_toArray, List.set_cons_zero, List.set_cons_succ]
  refine wpAnyH_ready (rs := [3]) (by kernel_rfl) (by simp) ?_
  refine AllReadyH.cons (o := ⟨some 8, _, _, _, _, _⟩) rfl (fun K hK => ?_) AllReadyH.nil
  go_simp
  refine (more_any _ _ _ (l.take 3) s w.drew S1.out NW.out).mono ?_; rintro e w1 ⟨rfl, hb1⟩
  have hfr : Fr (fun _ => False) w.drew w1 := Fr.of_below hb1
  have B1 := Lib.hid (show Below w.heap.size w w1 from (Below.drew (Below.refl _ _)).trans hb1)
  have N1 := Lib.hid (NW.out.keep hb1)
  have S2 := Lib.hid (S2.out.below hb1 (Nat.le_refl _))
  clear hb1
  go_wp2_with fail
  refine hK.out _ _ hfr (fun hHeld => ?_)
  clear hK K hHeld
  try simp only [Act.put, List.setIfInBounds_toArray, List.set_cons_zero, List.set_cons_succ]
  refine wpAnyH_re (S' := fun w' => Fr (fun _ => False) w1 w') (fun w' h => hfr.trans h) ?_
  clear hfr
  refine wpAnyH_ready (rs := [6]) (by kernel_rfl) (by simp) ?_
  refine AllReadyH.cons (o := ⟨some 11, _, _, _, _, _⟩) rfl (fun K hK => ?_) AllReadyH.nil
  go_simp
  refine (more_any _ _ _ (l.drop 7) (more s (l.take 3)) w1 S2.out N1.out).mono ?_; rintro e w2 ⟨rfl, hb2⟩
  have hfr : Fr (fun _ => False) w1 w2 := Fr.of_below hb2
  have B2 := Lib.hid (B1.out.trans (hb2.mono B1.out.size))
  clear hb2
  go_wp2_with fail
  refine hK.out _ _ hfr (fun hHeld => ?_)
  clear hK K hHeld
  try simp only [Act.put, List.setIfInBounds_toArray, List.set_cons_zero, List.set_cons_succ]
  refine wpAnyH_re (S' := fun w' => Fr (fun _ => False) w2 w') (fun w' h => hfr.trans h) ?_
  clear hfr
  refine wpAnyH_take (i := 7) (oi := ⟨some 4, _, _, _, _, _⟩) (v := ?vsum7) rfl (by kernel_rfl) (by kernel_rfl) (by kernel_rfl) (fun _ _ _ h => h) (Or.inl ⟨by rfl, ?ysum7⟩) (Fr.refl _ _) ?rsum7
  case ysum7 =>
    intro wq hSw
    (try dsimp only at hSw)
    first | (go_simp; done) | (go_simp; with_reducible rfl)
  try simp only [Act.put, List.setIfInBounds_toArray, List.set_cons_zero, List.set_cons_succ]
  refine wpAnyH_done (by kernel_rfl) ?_ _
  go_wp2_with fail
  go_ret
  rw [SM.out]
  exact ⟨rfl, B2.out⟩
theorem summed_more (A : Option Addr) (n c : Nat) (l : List UInt8) (s : W32) (w : World) (h : Sl w 1 A n c (cells l)) (h7 : 7 ≤ n) (hc7 : ¬ c = 7) (hN : Nt w) :
    Calls Tryd.prog 27 #[.int .u32 (s.toNat : Int), .slice A n c] w fun e w' => e = .returned (.int .u32 ((smP s l).toNat : Int)) ∧ Below w.heap.size w w' := by
  have hl := h.len
  rw [cells_length, Nat.mul_one] at hl
  obtain ⟨b, o, rfl, hc⟩ := h.at_ (k := 0) (by omega)
  have hcap := h.cap
  have htop := h.top
  unfold maxLen at htop
  have s1 := h.sub1 0 3 c (by omega) (by omega) (by omega) (by unfold maxLen; omega)
  have s2 := h.sub1 7 n (c - 7) (by omega) (by omega) (by omega) (by unfold maxLen; omega)
  rw [List.take_of_length_le (by rw [List.length_drop]; omega)] at s2
  rw [show (3 : Nat) - 0 = 3 from rfl, List.drop_zero] at s1
  have S1 := Lib.hid s1.drew
  have S2 := Lib.hid s2.drew
  have NW := Lib.hid (show Nt w.drew from hN.keep (Below.drew (Below.refl _ _)))
  have SM := Lib.hid (show smP s l = more (more s (l.take 3)) (l.drop 7) from rfl)
  have q1 : (3 : Int) ≤ (c : Int) := by omega
  have q2 : (7 : Int) ≤ (n : Int) := by omega
  have q3 : ¬ (c : Int) = 7 := by omega
  clear s1 s2 hN hl hc h
  go_enter Tryd.func27, Tryd.ntmps27
  go_wp2_with fail
  refine wp_region_held_drew (S := fun w' => Fr (fun _ => False) w.drew w') (by kernel_rfl) (Fr.refl _ _) (fun hHeld => ?_)
  clear hHeld
  refine wpAnyH_take (i := 0) (oi := ⟨some 5, _, _, _, _, _⟩) (v := ?vsun0) rfl (by kernel_rfl) (by kernel_rfl) (by kernel_rfl) (fun _ _ _ h => h) (Or.inl ⟨by rfl, ?ysun0⟩) (Fr.refl _ _) ?rsun0
  case ysun0 =>
    intro wq hSw
    (try dsimp only at hSw)
    first | (go_simp; done) | (go_simp; with_reducible rfl)
  try simp only [Act.put, List.setIfInBounds_toArray, List.set_cons_zero, List.set_cons_succ]
  refine wpAnyH_take (i := 1) (oi := ⟨some 6, _, _, _, _, _⟩) (v := ?vsun1) rfl (by kernel_rfl) (by kernel_rfl) (by kernel_rfl) (fun _ _ _ h => h) (Or.inl ⟨by rfl, ?ysun1⟩) (Fr.refl _ _) ?rsun1
  case ysun1 =>
    intro wq hSw
    (try dsimp only at hSw)
    first | (go_simp; done) | (go_simp; with_reducible rfl)
  try simp only [Act.put, List.setIfInBounds_toArray, List.set_cons_zero, List.set_cons_succ]
  refine wpAnyH_take (i := 2) (oi := ⟨some 7, _, _, _, _, _⟩) (v := ?vsun2) rfl (by kernel_rfl) (by kernel_rfl) (by kernel_rfl) (fun _ _ _ h => h) (Or.inl ⟨by rfl, ?ysun2⟩) (Fr.refl _ _) ?rsun2
  case ysun2 =>
    intro wq hSw
    (try dsimp only at hSw)
    first | (go_simp; done) | (go_simp; with_reducible rfl)
  try simp only [Act.put, List.setIfInBounds_toArray, List.set_cons_zero, List.set_cons_succ]
  refine wpAnyH_take (i := 4) (oi := ⟨some 9, _, _, _, _, _⟩) (v := ?vsun4) rfl (by kernel_rfl) (by kernel_rfl) (by kernel_rfl) (fun _ _ _ h => h) (Or.inl ⟨by rfl, ?ysun4⟩) (Fr.refl _ _) ?rsun4
  case ysun4 =>
    intro wq hSw
    (try dsimp only at hSw)
    first | (go_simp; done) | (go_simp; with_reducible rfl)
  try simp only [Act.put, List.setIfInBounds_toArray, List.set_cons_zero, List.set_cons_succ]
  refine wpAnyH_take (i := 5) (oi := ⟨some 10, _, _, _, _, _⟩) (v := ?vsun5) rfl (by kernel_rfl) (by kernel_rfl) (by kernel_rfl) (fun _ _ _ h => h) (Or.inl ⟨by rfl, ?ysun5⟩) (Fr.refl _ _) ?rsun5
  case ysun5 =>
    intro wq hSw
    (try dsimp only at hSw)
    first | (go_simp; done) | (go_simp; with_reducible rfl)
  try simp only [Act.put, List.setIfInBounds_toArray, List.set_cons_zero, List.set_cons_succ]
  refine wpAnyH_ready (rs := [3]) (by kernel_rfl) (by simp) ?_
  refine AllReadyH.cons (o := ⟨some 8, _, _, _, _, _⟩) rfl (fun K hK => ?_) AllReadyH.nil
  go_simp
  refine (more_any _ _ _ (l.take 3) s w.drew S1.out NW.out).mono ?_; rintro e w1 ⟨rfl, hb1⟩
  have hfr : Fr (fun _ => False) w.drew w1 := Fr.of_below hb1
  have B1 := Lib.hid (show Below w.heap.size w w1 from (Below.drew (Below.refl _ _)).trans hb1)
  have N1 := Lib.hid (NW.out.keep hb1)
  have S2 := Lib.hid (S2.out.below hb1 (Nat.le_refl _))
  clear hb1
  go_wp2_with fail
  refine hK.out _ _ hfr (fun hHeld => ?_)
  clear hK K hHeld
  try simp only [Act.put, List.setIfInBounds_toArray, List.set_cons_zero, List.set_cons_succ]
  refine wpAnyH_re (S' := fun w' => Fr (fun _ => False) w1 w') (fun w' h => hfr.trans h) ?_
  clear hfr
  refine wpAnyH_ready (rs := [6]) (by kernel_rfl) (by simp) ?_
  refine AllReadyH.cons (o := ⟨some 11, _, _, _, _, _⟩) rfl (fun K hK => ?_) AllReadyH.nil
  go_simp
  refine (more_any _ _ _ (l.drop 7) (more s (l.take 3)) w1 S2.out N1.out).mono ?_; rintro e w2 ⟨rfl, hb2⟩
  have hfr : Fr (fun _ => False) w1 w2 := Fr.of_below hb2
  have B2 := Lib.hid (B1.out.trans (hb2.mono B1.out.size))
  clear hb2
  go_wp2_with fail
  refine hK.out _ _ hfr (fun hHeld => ?_)
  clear hK K hHeld
  try simp only [Act.put, List.setIfInBounds_toArray, List.set_cons_zero, List.set_cons_succ]
  refine wpAnyH_re (S' := fun w' => Fr (fun _ => False) w2 w') (fun w' h => hfr.trans h) ?_
  clear hfr
  refine wpAnyH_take (i := 7) (oi := ⟨some 4, _, _, _, _, _⟩) (v := ?vsun7) rfl (by kernel_rfl) (by kernel_rfl) (by kernel_rfl) (fun _ _ _ h => h) (Or.inl ⟨by rfl, ?ysun7⟩) (Fr.refl _ _) ?rsun7
  case ysun7 =>
    intro wq hSw
    (try dsimp only at hSw)
    first | (go_simp; done) | (go_simp; with_reducible rfl)
  try simp only [Act.put, List.setIfInBounds_toArray, List.set_cons_zero, List.set_cons_succ]
  refine wpAnyH_done (by kernel_rfl) ?_ _
  go_wp2_with fail
  go_ret
  rw [SM.out]
  exact ⟨rfl, B2.out⟩
theorem summed17_any (A : Option Addr) (n c : Nat) (l : List UInt8) (s : W32) (w : World) (h : Sl w 1 A n c (cells l)) (h7 : 7 ≤ n) (hN : Nt w) :
    Calls Tryd.prog 27 #[.int .u32 (s.toNat : Int), .slice A n c] w fun e w' => e = .returned (.int .u32 ((smP s l).toNat : Int)) ∧ Below w.heap.size w w' := by
  by_cases hc7 : c = 7
  · subst hc7
    obtain rfl : 7 = n := by have := h.cap; omega
    exact summed_seven A l s w h hN
  · exact summed_more A n c l s w h h7 hc7 hN
end Go.Proofs.YtpijfghklgmefaaDoor

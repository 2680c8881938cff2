/-
  The document's Join (layer 17). Conditions: bounds. (Written by gen_fsa.py.)
-/
import Derived.Test.YtpijfghklgmefaaDoorFrx
import Derived.Test.YtpijfghklgmefaaDoorFrf
namespace Go.Proofs.YtpijfghklgmefaaDoor
open Go.RowKit Go.Proofs
set_option linter.unusedVariables false
set_option maxRecDepth 20000
set_option maxHeartbeats 3200000

theorem le_add17 : ∀ (k x y : Nat), le k (x + 256 ^ k * y) = le k x
  | 0, _, _ => rfl
  | k + 1, x, y => by
    have h1 : x + 256 ^ (k + 1) * y = x + 256 ^ k * (256 * y) := by rw [Nat.pow_succ, Nat.mul_assoc]
    rw [le, le, h1, le_add17 k x]
    congr 2
    rw [Nat.add_mul_div_left _ _ (Nat.pow_pos (by decide))]
    apply UInt8.toNat_inj.1
    rw [UInt8.toNat_ofNat', UInt8.toNat_ofNat']
    omega
theorem le_leV17 : ∀ (p : List UInt8), le p.length (leVal p) = p := by
  intro p
  obtain ⟨n, hn⟩ : ∃ n, n = p.length := ⟨_, rfl⟩
  induction n generalizing p with
  | zero => rw [List.eq_nil_of_length_eq_zero hn.symm]; rfl
  | succ n ih =>
    obtain ⟨q, u, rfl⟩ : ∃ q u, p = q ++ [u] := ⟨p.dropLast, p.getLast (by rintro rfl; simp at hn), (List.dropLast_concat_getLast _).symm⟩
    have hq : q.length = n := by simp at hn; omega
    have hlt := leVal_lt q
    rw [List.length_append, List.length_singleton, le, leVal_append, le_add17, ih q hq.symm, Nat.add_mul_div_left _ _ (Nat.pow_pos (by decide)), Nat.div_eq_of_lt hlt]
    simp [leVal]
theorem hd_of17 {p : List UInt8} (h7 : 7 ≤ p.length) (hv : leVal ((p.drop 1).take 2) = p.length - 7) : hdF (p.getD 0 0) (p.drop 7) = p.take 3 := by
  obtain ⟨u, r, rfl⟩ : ∃ u r, p = u :: r := by
    cases p with
    | nil => simp at h7
    | cons u r => exact ⟨u, r, rfl⟩
  have e : (r.take 2).length = 2 := by rw [List.length_take]; rw [List.length_cons] at h7; omega
  have hle := le_leV17 (r.take 2)
  rw [e] at hle
  rw [List.drop_one, List.tail_cons] at hv
  rw [hdF, List.length_drop, ← hv, hle]
  rfl
theorem sm_of17 {p : List UInt8} (h7 : 7 ≤ p.length) (hv : leVal ((p.drop 1).take 2) = p.length - 7) (s : W32) : smF (p.getD 0 0) (p.drop 7) s = smP s p := by
  rw [smF, smP, hd_of17 h7 hv]
theorem pc_of17 {p : List UInt8} (h7 : 7 ≤ p.length) (hv : leVal ((p.drop 1).take 2) = p.length - 7) (s : W32) : pcF (p.getD 0 0) (p.drop 7) s = p ↔ tdF p = smP s p := by
  constructor
  · intro h
    rw [← sm_of17 h7 hv s, ← tdF_pc (p.getD 0 0) (p.drop 7) s, h]
  · intro h
    have e4 : ((p.drop 3).take 4).length = 4 := by rw [List.length_take, List.length_drop]; omega
    have hlt := leVal_lt ((p.drop 3).take 4)
    have hle := le_leV17 ((p.drop 3).take 4)
    rw [e4] at hlt hle
    have ht : (tdF p).toNat = leVal ((p.drop 3).take 4) := by rw [tdF, BitVec.toNat_ofNat, Nat.mod_eq_of_lt (by exact hlt)]
    rw [pcF, hd_of17 h7 hv, sm_of17 h7 hv, ← h, ht, hle]
    rw [show (p.drop 3).take 4 = (p.drop 3).take 4 from rfl, List.append_assoc]
    have e : (p.drop 3).take 4 ++ p.drop 7 = p.drop 3 := by
      rw [show p.drop 7 = (p.drop 3).drop 4 from by rw [List.drop_drop]]
      exact List.take_append_drop 4 _
    rw [e, List.take_append_drop]
theorem mark_nat : ∀ n : Nat, n < 256 → ∀ a : Bool, (((UInt8.ofNat n) &&& 253) = (if a then 1 else 0)) ↔ (n ≤ 3 ∧ (decide (n % 2 = 1) = a)) := by decide +kernel
theorem mark_b (u : UInt8) (a : Bool) : (u &&& 253) = (if a then 1 else 0) ↔ (u.toNat ≤ 3 ∧ decide (u.toNat % 2 = 1) = a) := by
  have := mark_nat u.toNat u.toNat_lt a
  rwa [UInt8.ofNat_toNat] at this
theorem last_nat : ∀ n : Nat, n ≤ 3 → (((UInt8.ofNat n) &&& 2) ≠ 0 ↔ 2 ≤ n) := by decide
theorem last_b (u : UInt8) (h : u.toNat ≤ 3) : (u &&& 2 ≠ 0) ↔ 2 ≤ u.toNat := by
  have := last_nat u.toNat h
  rwa [UInt8.ofNat_toNat] at this
theorem fmB_of17 {p : List UInt8} {a : Bool} (h : fmB p a = true) : 7 ≤ p.length ∧ leVal ((p.drop 1).take 2) = p.length - 7 ∧ (p.getD 0 0).toNat ≤ 3 ∧ decide ((p.getD 0 0).toNat % 2 = 1) = a := by
  unfold fmB at h
  rw [Bool.and_eq_true, Bool.and_eq_true, decide_eq_true_eq, decide_eq_true_eq, decide_eq_true_eq] at h
  exact ⟨h.1, h.2.1.symm, (mark_b _ _).1 h.2.2⟩
theorem fmB_no17 {p : List UInt8} {a : Bool} (h : fmB p a = false) : ¬ 7 ≤ p.length ∨ leVal ((p.drop 1).take 2) ≠ p.length - 7 ∨ ¬ (p.getD 0 0).toNat ≤ 3 ∨ decide ((p.getD 0 0).toNat % 2 = 1) ≠ a := by
  by_cases h7 : 7 ≤ p.length
  · by_cases hv : leVal ((p.drop 1).take 2) = p.length - 7
    · by_cases h3 : (p.getD 0 0).toNat ≤ 3
      · by_cases h2 : decide ((p.getD 0 0).toNat % 2 = 1) = a
        · exfalso
          unfold fmB at h
          rw [decide_eq_true h7, decide_eq_true hv.symm, decide_eq_true ((mark_b _ _).2 ⟨h3, h2⟩)] at h
          cases h
        · exact .inr (.inr (.inr h2))
      · exact .inr (.inr (.inl h3))
    · exact .inr (.inl hv)
  · exact .inl h7
theorem bool_no17 : ∀ x y : Bool, x ≠ y → x = !y := by decide
theorem rjoin17_any (A : Option Addr) (n c : Nat) (rs : List (List UInt8)) (w : World) (h : Gr w A n c rs) (hb : rs.flatten.length ≤ 1000000) (hn : n ≤ 1000000) :
    Calls Tryd.prog 17 #[.slice A n c] w (RetJoin w (joinF rs)) := by
  have HH := Lib.hid h
  have HB := Lib.hid hb
  clear h hb
  go_enter Tryd.func17, Tryd.ntmps17
  go_wp2_with fail
  go_loopg [5, 6, 7] n (fun gk tv sv iv wr => ∃ (i : Nat) (s : W32) (acc : List UInt8) (A5 : Option Addr) (c5 : Nat), tv = .slice A5 acc.length c5 ∧ sv = .int .u32 (s.toNat : Int) ∧ iv = .int .i64 (i : Int) ∧ i ≤ n ∧ n - i ≤ gk ∧ Gro wr w.heap.size A5 acc.length c5 acc ∧ Below w.heap.size w wr ∧ joinL s (decide (i = 0)) acc i (rs.drop i) = joinF rs ∧ acc.length ≤ (rs.take i).flatten.length)
  case atStart => exact ⟨0, 0, [], none, 0, rfl, rfl, rfl, by omega, by omega, Gro.nil _ _, Below.refl _ _, rfl, by simp⟩
  case round =>
    obtain ⟨G, hG⟩ : ∃ x, x = gk := ⟨_, rfl⟩
    subst hG
    obtain ⟨i, s, acc, A5, c5, htv, hsv, hiv, hi, hgk, hgr, hbe, hj, hac⟩ := hrel
    subst htv hsv hiv
    have GR := Lib.hid hgr
    have BE := Lib.hid hbe
    clear hgr hbe
    by_cases hlt : i < n
    · have hii : (i : Int) < (n : Int) := by omega
      obtain ⟨b, o, rfl, hcc⟩ := HH.out.at_ (by omega)
      have hget := HH.out.get hlt
      obtain ⟨p, hp⟩ : ∃ r, r = rs.getD i [] := ⟨_, rfl⟩
      rw [← hp] at hget
      obtain ⟨A1, c1, hc1, hs1⟩ := hcc i p hget
      have S0 := Lib.hid hs1
      have hs1 := hs1.below BE.out (Nat.le_refl _)
      have hc1 := (BE.out.cell (World.block_lt_of_cell? w _ hc1)).trans hc1
      rw [drop_at hget, joinL] at hj
      have hfl := flat_get17 hget
      have hft := flatten_take_len rs (i + 1)
      have hacp : acc.length + p.length ≤ 1000000 := by have := HB.out; omega
      have HAC := Lib.hid (show acc.length + p.length ≤ (rs.take (i + 1)).flatten.length from by omega)
      have S1 := Lib.hid hs1
      clear hget hp hfl hft hcc hs1 hac
      by_cases h7 : 7 ≤ p.length
      · have hg16 := rget_any16 A1 p.length c1 p 1 2 wr S1.out
        have e16 : getN16 p 1 2 = (leVal ((p.drop 1).take 2), 0) := by
          unfold getN16
          rw [if_neg (by omega), if_neg (by omega)]
          rfl
        rw [e16] at hg16
        dsimp only at hg16
        have hvlt := leVal_lt ((p.drop 1).take 2)
        have el : ((p.drop 1).take 2).length = 2 := by rw [List.length_take, List.length_drop]; omega
        rw [el] at hvlt
        obtain ⟨v, hv⟩ : ∃ v, v = leVal ((p.drop 1).take 2) := ⟨_, rfl⟩
        rw [← hv] at hg16 hvlt
        have hvw : IntKind.i64.wrap ((v : Nat) : Int) = (v : Int) := by rw [IntKind.wrap_i64]; omega
        have hcell : ∃ u : UInt8, p[0]? = some u := ⟨p[0], List.getElem?_eq_getElem (by omega)⟩
        obtain ⟨u, hu⟩ := hcell
        have hgu : p.getD 0 0 = u := by rw [List.getD_eq_getElem?_getD, hu, Option.getD_some]
        obtain ⟨b7, o7, hA7, hc7⟩ := S0.out.at_ (k := 0) (by omega)
        have hc70 : w.cell? ⟨b7, o7, none⟩ = some (.int .u8 (u.toNat : Int)) := by
          have := hc7 0 (bv u) (by simp [cells, hu])
          rwa [Nat.add_zero] at this
        have C70 := Lib.hid hc70
        have hcr0 := (BE.out.cell (World.block_lt_of_cell? w _ hc70)).trans hc70
        subst hA7
        have HV := Lib.hid hv
        have HU := Lib.hid hgu
        have hu8 := u.toNat_lt
        have hodd : (((u.toNat : Int) % 2 == 1)) = decide (u.toNat % 2 = 1) := by
          rcases Nat.mod_two_eq_zero_or_one u.toNat with h' | h'
          · rw [h']
            simp
            omega
          · rw [h']
            simp
            omega
        have hi0 : ((i : Int) == 0) = decide (i = 0) := by
          by_cases hz : i = 0
          · subst hz; rfl
          · rw [decide_eq_false hz, beq_eq_false_iff_ne]; omega
        clear hc70 hc7 hu hv e16 el hgu
        by_cases hfm : fmB p (decide (i = 0)) = true
        · rw [hfm, if_neg (by decide)] at hj
          obtain ⟨_, hv7, hu3, ho⟩ := fmB_of17 hfm
          rw [← HV.out] at hv7
          rw [HU.out] at hu3 ho
          rw [ho] at hodd
          rw [← hi0] at hodd
          have hpc := pc_of17 h7 (HV.out.symm.trans hv7) s
          have hsm := sm_of17 h7 (HV.out.symm.trans hv7) s
          rw [HU.out] at hpc hsm
          have HJ := Lib.hid hj
          have HPC := Lib.hid hpc
          have HSM := Lib.hid hsm
          clear hj hpc hsm ho hi0 hfm
          have hb7 := World.block_lt_of_cell? w _ C70.out
          have hz1 := BE.out.size
          have CR0 := Lib.hid hcr0
          obtain ⟨t, ht⟩ : ∃ t, t = p.drop 7 := ⟨_, rfl⟩
          have htl : t.length = p.length - 7 := by rw [ht, List.length_drop]
          obtain ⟨x, hx⟩ : ∃ x, x = pcF u t s := ⟨_, rfl⟩
          have hxl : x.length = t.length + 7 := by rw [hx, pcF_len]
          obtain ⟨sm, hsm0⟩ : ∃ x, x = smF u t s := ⟨_, rfl⟩
          have hpc := fun A' n' c' W hs' hn' => rpiece17 u s A' n' c' t W hs' hn'
          unfold RetPc at hpc
          rw [← hx, ← hsm0] at hpc
          have PC := Lib.hid hpc
          have HT := Lib.hid ht
          have HX := Lib.hid hx
          have HXL := Lib.hid hxl
          have HSM0 := Lib.hid hsm0
          have HTL := Lib.hid htl
          clear hpc ht hx hxl hsm0 htl
          have q7 : (7 : Int) ≤ (p.length : Int) := by omega
          have hsl := S1.out.sub17 7 p.length h7 (Nat.le_refl _)
          rw [List.take_of_length_le (by rw [List.length_drop]; exact Nat.le_refl _), ← HT.out] at hsl
          by_cases hc17 : c1 = 7
          · subst hc17
            rw [if_pos rfl] at hsl
            have SL := Lib.hid hsl
            clear hsl
            go_wp2_with fail
            refine hg16.mono ?_; clear hg16; rintro e w1 ⟨rfl, hw1⟩
            obtain rfl := hw1
            go_wp2_with fail
            refine wp_region_held_drew (S := fun w' => Fr (fun k => w.heap.size ≤ k) wr.drew w') (by kernel_rfl) (Fr.refl _ _) (fun hHeld => ?_)
            clear hHeld
            refine wpAnyH_take (i := 0) (oi := ⟨some 54, _, _, _, _, _⟩) (v := ?vrja0) rfl (by kernel_rfl) (by kernel_rfl) (by kernel_rfl) (fun _ _ _ h => h) (Or.inl ⟨by rfl, ?yrja0⟩) (Fr.refl _ _) ?rrja0
            case yrja0 =>
              intro wq hSw
              (try dsimp only at hSw)
              first | (go_simp; done) | (go_simp; with_reducible rfl)
            try simp only [Act.put, List.setIfInBounds_toArray, List.set_cons_zero, List.set_cons_succ]
            refine wpAnyH_take (i := 1) (oi := ⟨some 55, _, _, _, _, _⟩) (v := ?vrja1) rfl (by kernel_rfl) (by kernel_rfl) (by kernel_rfl) (fun _ _ _ h => h) (Or.inl ⟨by rfl, ?yrja1⟩) (Fr.refl _ _) ?rrja1
            case yrja1 =>
              intro wq hSw
              (try dsimp only at hSw)
              first | (go_simp; done) | (go_simp; with_reducible rfl)
            try simp only [Act.put, List.setIfInBounds_toArray, List.set_cons_zero, List.set_cons_succ]
            refine wpAnyH_take (i := 2) (oi := ⟨some 56, _, _, _, _, _⟩) (v := ?vrja2) rfl (by kernel_rfl) (by kernel_rfl) (by kernel_rfl) (fun _ _ _ h => h) (Or.inl ⟨by rfl, ?yrja2⟩) (Fr.refl _ _) ?rrja2
            case yrja2 =>
              intro wq hSw
              (try dsimp only at hSw)
              have q0 := hSw.cell_some CR0.out (by show ¬ w.heap.size ≤ b7; omega)
              first | (go_simp; done) | (go_simp; with_reducible rfl)
            try simp only [Act.put, List.setIfInBounds_toArray, List.set_cons_zero, List.set_cons_succ]
            refine wpAnyH_take (i := 3) (oi := ⟨some 57, _, _, _, _, _⟩) (v := ?vrja3) rfl (by kernel_rfl) (by kernel_rfl) (by kernel_rfl) (fun _ _ _ h => h) (Or.inl ⟨by rfl, ?yrja3⟩) (Fr.refl _ _) ?rrja3
            case yrja3 =>
              intro wq hSw
              (try dsimp only at hSw)
              first | (go_simp; done) | (go_simp; with_reducible rfl)
            try simp only [Act.put, List.setIfInBounds_toArray, List.set_cons_zero, List.set_cons_succ]
            refine wpAnyH_take (i := 4) (oi := ⟨some 58, _, _, _, _, _⟩) (v := ?vrja4) rfl (by kernel_rfl) (by kernel_rfl) (by kernel_rfl) (fun _ _ _ h => h) (Or.inl ⟨by rfl, ?yrja4⟩) (Fr.refl _ _) ?rrja4
            case yrja4 =>
              intro wq hSw
              (try dsimp only at hSw)
              first | (go_simp; done) | (go_simp; with_reducible rfl)
            try simp only [Act.put, List.setIfInBounds_toArray, List.set_cons_zero, List.set_cons_succ]
            refine wpAnyH_take (i := 5) (oi := ⟨some 59, _, _, _, _, _⟩) (v := ?vrja5) rfl (by kernel_rfl) (by kernel_rfl) (by kernel_rfl) (fun _ _ _ h => h) (Or.inl ⟨by rfl, ?yrja5⟩) (Fr.refl _ _) ?rrja5
            case yrja5 =>
              intro wq hSw
              (try dsimp only at hSw)
              first | (go_simp; done) | (go_simp; with_reducible rfl)
            try simp only [Act.put, List.setIfInBounds_toArray, List.set_cons_zero, List.set_cons_succ]
            refine wpAnyH_ready (rs := [6]) (by kernel_rfl) (by simp) ?_
            refine AllReadyH.cons (o := ⟨some 60, _, _, _, _, _⟩) rfl (fun K hK => ?_) AllReadyH.nil
            go_simp
            refine (PC.out _ _ _ wr.drew SL.out.drew (by omega)).mono ?_; rintro e w1 ⟨A6, c6, rfl, hg6, hb6⟩
            have hfr : Fr (fun k => w.heap.size ≤ k) wr.drew w1 := Fr.of_belowAt hb6 (fun k hk => Nat.le_trans hz1 hk)
            go_wp2_with fail
            refine hK.out _ _ hfr (fun hHeld => ?_)
            clear hK K hHeld
            try simp only [Act.put, List.setIfInBounds_toArray, List.set_cons_zero, List.set_cons_succ]
            refine wpAnyH_re (S' := fun w' => Fr (fun k => w.heap.size ≤ k) w1 w') (fun w' h => hfr.trans h) ?_
            clear hfr
            refine wpAnyH_take (i := 7) (oi := ⟨some 53, _, _, _, _, _⟩) (v := ?vrja7) rfl (by kernel_rfl) (by kernel_rfl) (by kernel_rfl) (fun _ _ _ h => h) (Or.inl ⟨by rfl, ?yrja7⟩) (Fr.refl _ _) ?rrja7
            case yrja7 =>
              intro wq hSw
              (try dsimp only at hSw)
              first | (go_simp; done) | (go_simp; with_reducible rfl)
            try simp only [Act.put, List.setIfInBounds_toArray, List.set_cons_zero, List.set_cons_succ]
            refine wpAnyH_take (i := 8) (oi := ⟨some 61, _, _, _, _, _⟩) (v := ?vrja8) rfl (by kernel_rfl) (by kernel_rfl) (by kernel_rfl) (fun _ _ _ h => h) (Or.inl ⟨by rfl, ?yrja8⟩) (Fr.refl _ _) ?rrja8
            case yrja8 =>
              intro wq hSw
              (try dsimp only at hSw)
              first | (go_simp; done) | (go_simp; with_reducible rfl)
            try simp only [Act.put, List.setIfInBounds_toArray, List.set_cons_zero, List.set_cons_succ]
            refine wpAnyH_take (i := 9) (oi := ⟨some 62, _, _, _, _, _⟩) (v := ?vrja9) rfl (by kernel_rfl) (by kernel_rfl) (by kernel_rfl) (fun _ _ _ h => h) (Or.inl ⟨by rfl, ?yrja9⟩) (Fr.refl _ _) ?rrja9
            case yrja9 =>
              intro wq hSw
              (try dsimp only at hSw)
              first | (go_simp; done) | (go_simp; with_reducible rfl)
            try simp only [Act.put, List.setIfInBounds_toArray, List.set_cons_zero, List.set_cons_succ]
            refine wpAnyH_take (i := 10) (oi := ⟨some 11, _, _, _, _, _⟩) (v := ?vrja10) rfl (by kernel_rfl) (by kernel_rfl) (by kernel_rfl) (fun _ _ _ h => h) (Or.inl ⟨by rfl, ?yrja10⟩) (Fr.refl _ _) ?rrja10
            case yrja10 =>
              intro wq hSw
              (try dsimp only at hSw)
              first | (go_simp; done) | (go_simp; with_reducible rfl)
            try simp only [Act.put, List.setIfInBounds_toArray, List.set_cons_zero, List.set_cons_succ]
            refine wpAnyH_take (i := 11) (oi := ⟨some 12, _, _, _, _, _⟩) (v := ?vrja11) rfl (by kernel_rfl) (by kernel_rfl) (by kernel_rfl) (fun _ _ _ h => h) (Or.inl ⟨by rfl, ?yrja11⟩) (Fr.refl _ _) ?rrja11
            case yrja11 =>
              intro wq hSw
              (try dsimp only at hSw)
              first | (go_simp; done) | (go_simp; with_reducible rfl)
            try simp only [Act.put, List.setIfInBounds_toArray, List.set_cons_zero, List.set_cons_succ]
            refine wpAnyH_done (by kernel_rfl) ?_ _
            have hbw : Below wr.heap.size wr w1 := (Below.drew (Below.refl _ _)).trans hb6
            have B1 := Lib.hid (BE.out.trans (hbw.mono BE.out.size))
            have GR1 := Lib.hid (GR.out.later hbw)
            have SL1 := Lib.hid (SL.out.below hbw (Nat.le_refl _))
            have S1' := S1.out.below hbw (Nat.le_refl _)
            have hx6 := hg6.sl
            have k1 : (convert 26 9 (.slice A6 (t.length + 7) c6)).run Tryd.prog w1 = .ok (.string (bstr x)) w1 := str_of hx6
            have k2 := str_of S1'
            clear hg6 hb6 hbw hx6 S1'
            by_cases hxp : x = p
            · have hz : ((bstr x).toList == (bstr p).toList) = true := by rw [bstr_toList, bstr_toList]; simpa using hxp
              have htd := HPC.out.1 (by rw [← HT.out, ← HX.out]; exact hxp)
              have HJ1 := HJ.out
              rw [if_neg (fun hh => hh htd)] at HJ1
              have hsm1 : sm = tdF p := by rw [htd, ← HSM.out, HSM0.out, HT.out]
              have HS1 := Lib.hid hsm1
              have HJ := Lib.hid HJ1
              have hls : lsB p = decide (2 ≤ u.toNat) := by
                rw [lsB, HU.out]
                exact decide_eq_decide.2 (last_b u hu3)
              have HLS := Lib.hid hls
              clear HJ1 hsm1 htd hxp hls
              go_wp2_with (at_builtin; refine wpList_append_gro (B := w.heap.size) rfl (.tmp 69) (.tmp 71) rfl rfl GR1.out B1.out.size _ _ _ t rfl SL1.out ?rja1 ?rja2)
              case rja1 => have := HTL.out; omega
              intro A7 c7 w2 hg7 hb7
              have B2 := Lib.hid (B1.out.trans hb7)
              have G7 := Lib.hid hg7
              have hc71 := (B2.out.cell (World.block_lt_of_cell? w _ C70.out)).trans C70.out
              clear hg7 hb7
              have HLE := Lib.hid (show (acc ++ p.drop 7).length = acc.length + (p.length - 7) from by rw [List.length_append, List.length_drop])
              have hfin := HJ.out
              rw [HLS.out] at hfin
              by_cases hl : 2 ≤ u.toNat
              · rw [decide_eq_true hl, if_pos rfl] at hfin
                have FIN := Lib.hid hfin
                clear hfin
                go_wp2_with fail
                go_ret3
                rw [← FIN.out]
                have hg := G7.out
                rw [HT.out, ← HLE.out] at hg
                exact ⟨A7, c7, by rw [HLE.out]; rfl, hg.sl, B2.out, hg.low⟩
              · rw [decide_eq_false hl, if_neg (by decide)] at hfin
                have FIN := Lib.hid hfin
                clear hfin
                go_wp2_with fail
                go_roundg (G - 1)
                case measure => omega
                case rel =>
                  refine ⟨i + 1, sm, acc ++ p.drop 7, A7, c7, by rw [HLE.out], rfl, by go_num, by omega, by omega, by rw [HLE.out, ← HT.out]; exact G7.out, B2.out, ?_, ?_⟩
                  · rw [decide_eq_false (by omega), HS1.out]
                    exact FIN.out
                  · have h1 := HAC.out
                    rw [HLE.out]
                    omega
            · have hz : ((bstr x).toList == (bstr p).toList) = false := by rw [bstr_toList, bstr_toList]; simpa using hxp
              have htd : tdF p ≠ smP s p := fun hh => hxp (by rw [HX.out, HT.out]; exact HPC.out.2 hh)
              have HJ1 := HJ.out
              rw [if_pos htd] at HJ1
              have HJ := Lib.hid HJ1
              clear HJ1 htd hxp
              go_wp2_with fail
              go_ret3
              rw [← HJ.out]
              exact ⟨none, 0, rfl, Sl.nil _ _ _ (by decide), B1.out, fun b o h0 => absurd h0 (by decide)⟩
          · rw [if_neg hc17] at hsl
            have hc18 : ¬ (c1 : Int) = 7 := by omega
            have hsl : Sl wr 1 (some ⟨b7, o7 + 7, none⟩) (p.length - 7) (c1 - 7) (cells t) := hsl
            have SL := Lib.hid hsl
            clear hsl
            go_wp2_with fail
            refine hg16.mono ?_; clear hg16; rintro e w1 ⟨rfl, hw1⟩
            obtain rfl := hw1
            go_wp2_with fail
            refine wp_region_held_drew (S := fun w' => Fr (fun k => w.heap.size ≤ k) wr.drew w') (by kernel_rfl) (Fr.refl _ _) (fun hHeld => ?_)
            clear hHeld
            refine wpAnyH_take (i := 0) (oi := ⟨some 54, _, _, _, _, _⟩) (v := ?vrjb0) rfl (by kernel_rfl) (by kernel_rfl) (by kernel_rfl) (fun _ _ _ h => h) (Or.inl ⟨by rfl, ?yrjb0⟩) (Fr.refl _ _) ?rrjb0
            case yrjb0 =>
              intro wq hSw
              (try dsimp only at hSw)
              first | (go_simp; done) | (go_simp; with_reducible rfl)
            try simp only [Act.put, List.setIfInBounds_toArray, List.set_cons_zero, List.set_cons_succ]
            refine wpAnyH_take (i := 1) (oi := ⟨some 55, _, _, _, _, _⟩) (v := ?vrjb1) rfl (by kernel_rfl) (by kernel_rfl) (by kernel_rfl) (fun _ _ _ h => h) (Or.inl ⟨by rfl, ?yrjb1⟩) (Fr.refl _ _) ?rrjb1
            case yrjb1 =>
              intro wq hSw
              (try dsimp only at hSw)
              first | (go_simp; done) | (go_simp; with_reducible rfl)
            try simp only [Act.put, List.setIfInBounds_toArray, List.set_cons_zero, List.set_cons_succ]
            refine wpAnyH_take (i := 2) (oi := ⟨some 56, _, _, _, _, _⟩) (v := ?vrjb2) rfl (by kernel_rfl) (by kernel_rfl) (by kernel_rfl) (fun _ _ _ h => h) (Or.inl ⟨by rfl, ?yrjb2⟩) (Fr.refl _ _) ?rrjb2
            case yrjb2 =>
              intro wq hSw
              (try dsimp only at hSw)
              have q0 := hSw.cell_some CR0.out (by show ¬ w.heap.size ≤ b7; omega)
              first | (go_simp; done) | (go_simp; with_reducible rfl)
            try simp only [Act.put, List.setIfInBounds_toArray, List.set_cons_zero, List.set_cons_succ]
            refine wpAnyH_take (i := 3) (oi := ⟨some 57, _, _, _, _, _⟩) (v := ?vrjb3) rfl (by kernel_rfl) (by kernel_rfl) (by kernel_rfl) (fun _ _ _ h => h) (Or.inl ⟨by rfl, ?yrjb3⟩) (Fr.refl _ _) ?rrjb3
            case yrjb3 =>
              intro wq hSw
              (try dsimp only at hSw)
              first | (go_simp; done) | (go_simp; with_reducible rfl)
            try simp only [Act.put, List.setIfInBounds_toArray, List.set_cons_zero, List.set_cons_succ]
            refine wpAnyH_take (i := 4) (oi := ⟨some 58, _, _, _, _, _⟩) (v := ?vrjb4) rfl (by kernel_rfl) (by kernel_rfl) (by kernel_rfl) (fun _ _ _ h => h) (Or.inl ⟨by rfl, ?yrjb4⟩) (Fr.refl _ _) ?rrjb4
            case yrjb4 =>
              intro wq hSw
              (try dsimp only at hSw)
              first | (go_simp; done) | (go_simp; with_reducible rfl)
            try simp only [Act.put, List.setIfInBounds_toArray, List.set_cons_zero, List.set_cons_succ]
            refine wpAnyH_take (i := 5) (oi := ⟨some 59, _, _, _, _, _⟩) (v := ?vrjb5) rfl (by kernel_rfl) (by kernel_rfl) (by kernel_rfl) (fun _ _ _ h => h) (Or.inl ⟨by rfl, ?yrjb5⟩) (Fr.refl _ _) ?rrjb5
            case yrjb5 =>
              intro wq hSw
              (try dsimp only at hSw)
              first | (go_simp; done) | (go_simp; with_reducible rfl)
            try simp only [Act.put, List.setIfInBounds_toArray, List.set_cons_zero, List.set_cons_succ]
            refine wpAnyH_ready (rs := [6]) (by kernel_rfl) (by simp) ?_
            refine AllReadyH.cons (o := ⟨some 60, _, _, _, _, _⟩) rfl (fun K hK => ?_) AllReadyH.nil
            go_simp
            refine (PC.out _ _ _ wr.drew SL.out.drew (by omega)).mono ?_; rintro e w1 ⟨A6, c6, rfl, hg6, hb6⟩
            have hfr : Fr (fun k => w.heap.size ≤ k) wr.drew w1 := Fr.of_belowAt hb6 (fun k hk => Nat.le_trans hz1 hk)
            go_wp2_with fail
            refine hK.out _ _ hfr (fun hHeld => ?_)
            clear hK K hHeld
            try simp only [Act.put, List.setIfInBounds_toArray, List.set_cons_zero, List.set_cons_succ]
            refine wpAnyH_re (S' := fun w' => Fr (fun k => w.heap.size ≤ k) w1 w') (fun w' h => hfr.trans h) ?_
            clear hfr
            refine wpAnyH_take (i := 7) (oi := ⟨some 53, _, _, _, _, _⟩) (v := ?vrjb7) rfl (by kernel_rfl) (by kernel_rfl) (by kernel_rfl) (fun _ _ _ h => h) (Or.inl ⟨by rfl, ?yrjb7⟩) (Fr.refl _ _) ?rrjb7
            case yrjb7 =>
              intro wq hSw
              (try dsimp only at hSw)
              first | (go_simp; done) | (go_simp; with_reducible rfl)
            try simp only [Act.put, List.setIfInBounds_toArray, List.set_cons_zero, List.set_cons_succ]
            refine wpAnyH_take (i := 8) (oi := ⟨some 61, _, _, _, _, _⟩) (v := ?vrjb8) rfl (by kernel_rfl) (by kernel_rfl) (by kernel_rfl) (fun _ _ _ h => h) (Or.inl ⟨by rfl, ?yrjb8⟩) (Fr.refl _ _) ?rrjb8
            case yrjb8 =>
              intro wq hSw
              (try dsimp only at hSw)
              first | (go_simp; done) | (go_simp; with_reducible rfl)
            try simp only [Act.put, List.setIfInBounds_toArray, List.set_cons_zero, List.set_cons_succ]
            refine wpAnyH_take (i := 9) (oi := ⟨some 62, _, _, _, _, _⟩) (v := ?vrjb9) rfl (by kernel_rfl) (by kernel_rfl) (by kernel_rfl) (fun _ _ _ h => h) (Or.inl ⟨by rfl, ?yrjb9⟩) (Fr.refl _ _) ?rrjb9
            case yrjb9 =>
              intro wq hSw
              (try dsimp only at hSw)
              first | (go_simp; done) | (go_simp; with_reducible rfl)
            try simp only [Act.put, List.setIfInBounds_toArray, List.set_cons_zero, List.set_cons_succ]
            refine wpAnyH_take (i := 10) (oi := ⟨some 11, _, _, _, _, _⟩) (v := ?vrjb10) rfl (by kernel_rfl) (by kernel_rfl) (by kernel_rfl) (fun _ _ _ h => h) (Or.inl ⟨by rfl, ?yrjb10⟩) (Fr.refl _ _) ?rrjb10
            case yrjb10 =>
              intro wq hSw
              (try dsimp only at hSw)
              first | (go_simp; done) | (go_simp; with_reducible rfl)
            try simp only [Act.put, List.setIfInBounds_toArray, List.set_cons_zero, List.set_cons_succ]
            refine wpAnyH_take (i := 11) (oi := ⟨some 12, _, _, _, _, _⟩) (v := ?vrjb11) rfl (by kernel_rfl) (by kernel_rfl) (by kernel_rfl) (fun _ _ _ h => h) (Or.inl ⟨by rfl, ?yrjb11⟩) (Fr.refl _ _) ?rrjb11
            case yrjb11 =>
              intro wq hSw
              (try dsimp only at hSw)
              first | (go_simp; done) | (go_simp; with_reducible rfl)
            try simp only [Act.put, List.setIfInBounds_toArray, List.set_cons_zero, List.set_cons_succ]
            refine wpAnyH_done (by kernel_rfl) ?_ _
            have hbw : Below wr.heap.size wr w1 := (Below.drew (Below.refl _ _)).trans hb6
            have B1 := Lib.hid (BE.out.trans (hbw.mono BE.out.size))
            have GR1 := Lib.hid (GR.out.later hbw)
            have SL1 := Lib.hid (SL.out.below hbw (Nat.le_refl _))
            have S1' := S1.out.below hbw (Nat.le_refl _)
            have hx6 := hg6.sl
            have k1 : (convert 26 9 (.slice A6 (t.length + 7) c6)).run Tryd.prog w1 = .ok (.string (bstr x)) w1 := str_of hx6
            have k2 := str_of S1'
            clear hg6 hb6 hbw hx6 S1'
            obtain ⟨A0, hA0⟩ : ∃ a, a = some (⟨b7, o7, none⟩ : Addr) := ⟨_, rfl⟩
            have SLA : Sl w1 1 (A0.map fun x => x.add 7) (p.length - 7) (c1 - 7) (cells t) := by rw [hA0]; exact SL1.out
            have SL1 := Lib.hid SLA
            rw [← hA0] at k2 ⊢
            have HA0 := Lib.hid hA0
            clear hA0 SLA
            by_cases hxp : x = p
            · have hz : ((bstr x).toList == (bstr p).toList) = true := by rw [bstr_toList, bstr_toList]; simpa using hxp
              have htd := HPC.out.1 (by rw [← HT.out, ← HX.out]; exact hxp)
              have HJ1 := HJ.out
              rw [if_neg (fun hh => hh htd)] at HJ1
              have hsm1 : sm = tdF p := by rw [htd, ← HSM.out, HSM0.out, HT.out]
              have HS1 := Lib.hid hsm1
              have HJ := Lib.hid HJ1
              have hls : lsB p = decide (2 ≤ u.toNat) := by
                rw [lsB, HU.out]
                exact decide_eq_decide.2 (last_b u hu3)
              have HLS := Lib.hid hls
              clear HJ1 hsm1 htd hxp hls
              go_wp2_with (at_builtin; refine wpList_append_gro (B := w.heap.size) rfl (.tmp 69) (.tmp 71) rfl rfl GR1.out B1.out.size _ _ _ t rfl SL1.out ?rjb1 ?rjb2)
              case rjb1 => have := HTL.out; omega
              intro A7 c7 w2 hg7 hb7
              have B2 := Lib.hid (B1.out.trans hb7)
              have G7 := Lib.hid hg7
              have hA0 := HA0.out
              subst hA0
              have hc71 := (B2.out.cell (World.block_lt_of_cell? w _ C70.out)).trans C70.out
              clear hg7 hb7
              have HLE := Lib.hid (show (acc ++ p.drop 7).length = acc.length + (p.length - 7) from by rw [List.length_append, List.length_drop])
              have hfin := HJ.out
              rw [HLS.out] at hfin
              by_cases hl : 2 ≤ u.toNat
              · rw [decide_eq_true hl, if_pos rfl] at hfin
                have FIN := Lib.hid hfin
                clear hfin
                go_wp2_with fail
                go_ret3
                rw [← FIN.out]
                have hg := G7.out
                rw [HT.out, ← HLE.out] at hg
                exact ⟨A7, c7, by rw [HLE.out]; rfl, hg.sl, B2.out, hg.low⟩
              · rw [decide_eq_false hl, if_neg (by decide)] at hfin
                have FIN := Lib.hid hfin
                clear hfin
                go_wp2_with fail
                go_roundg (G - 1)
                case measure => omega
                case rel =>
                  refine ⟨i + 1, sm, acc ++ p.drop 7, A7, c7, by rw [HLE.out], rfl, by go_num, by omega, by omega, by rw [HLE.out, ← HT.out]; exact G7.out, B2.out, ?_, ?_⟩
                  · rw [decide_eq_false (by omega), HS1.out]
                    exact FIN.out
                  · have h1 := HAC.out
                    rw [HLE.out]
                    omega
            · have hz : ((bstr x).toList == (bstr p).toList) = false := by rw [bstr_toList, bstr_toList]; simpa using hxp
              have htd : tdF p ≠ smP s p := fun hh => hxp (by rw [HX.out, HT.out]; exact HPC.out.2 hh)
              have HJ1 := HJ.out
              rw [if_pos htd] at HJ1
              have HJ := Lib.hid HJ1
              clear HJ1 htd hxp
              go_wp2_with fail
              go_ret3
              rw [← HJ.out]
              exact ⟨none, 0, rfl, Sl.nil _ _ _ (by decide), B1.out, fun b o h0 => absurd h0 (by decide)⟩
        · have hfm : fmB p (decide (i = 0)) = false := by simpa using hfm
          rw [hfm, if_pos rfl] at hj
          have hno := (fmB_no17 hfm).resolve_left (fun hh => hh h7)
          rw [← HV.out, HU.out] at hno
          have HJ := Lib.hid hj
          clear hj hfm
          by_cases hv7 : v = p.length - 7
          · by_cases hu3 : u.toNat ≤ 3
            · have hpar := (hno.resolve_left (fun hh => hh hv7)).resolve_left (fun hh => hh hu3)
              have hodd2 : (((u.toNat : Int) % 2 == 1)) = !((i : Int) == 0) := by
                rw [hodd, hi0]
                exact bool_no17 _ _ hpar
              clear hno hpar hodd hi0
              go_wp2_with fail
              refine hg16.mono ?_; clear hg16; rintro e w1 ⟨rfl, hw1⟩
              obtain rfl := hw1
              go_wp2_with fail
              go_ret3
              rw [← HJ.out]
              exact ⟨none, 0, rfl, Sl.nil _ _ _ (by decide), BE.out, fun b o h0 => absurd h0 (by decide)⟩
            · clear hno hodd hi0
              go_wp2_with fail
              refine hg16.mono ?_; clear hg16; rintro e w1 ⟨rfl, hw1⟩
              obtain rfl := hw1
              go_wp2_with fail
              go_ret3
              rw [← HJ.out]
              exact ⟨none, 0, rfl, Sl.nil _ _ _ (by decide), BE.out, fun b o h0 => absurd h0 (by decide)⟩
          · have hv8 : ¬ (v : Int) = (p.length : Int) - 7 := by omega
            clear hno hodd hi0
            go_wp2_with fail
            refine hg16.mono ?_; clear hg16; rintro e w1 ⟨rfl, hw1⟩
            obtain rfl := hw1
            go_wp2_with fail
            go_ret3
            rw [← HJ.out]
            exact ⟨none, 0, rfl, Sl.nil _ _ _ (by decide), BE.out, fun b o h0 => absurd h0 (by decide)⟩
      · have hfm : fmB p (decide (i = 0)) = false := by rw [fmB, decide_eq_false h7]; rfl
        rw [hfm, if_pos rfl] at hj
        have HJ := Lib.hid hj
        clear hj hfm
        go_wp2_with fail
        go_ret3
        rw [← HJ.out]
        exact ⟨none, 0, rfl, Sl.nil _ _ _ (by decide), BE.out, fun b o h0 => absurd h0 (by decide)⟩
    · obtain rfl : n = i := by omega
      rw [List.drop_of_length_le (by rw [HH.out.len]; exact Nat.le_refl _), joinL] at hj
      go_wp2_with fail
      go_ret3
      rw [← hj]
      exact ⟨none, 0, rfl, Sl.nil _ _ _ (by decide), BE.out, fun b o h0 => absurd h0 (by decide)⟩
end Go.Proofs.YtpijfghklgmefaaDoor

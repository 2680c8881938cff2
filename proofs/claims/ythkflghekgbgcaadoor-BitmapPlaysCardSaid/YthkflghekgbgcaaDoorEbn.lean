/-
  The document's map (layer 12): Free, First, Run and Least. No condition but bounds.
-/
import Derived.Test.YthkflghekgbgcaaDoorEbm
namespace Go.Proofs.YthkflghekgbgcaaDoor
open Go.RowKit Go.Proofs
set_option linter.unusedVariables false

theorem head_yes {n i : Nat} {f : Nat → Bool} (hi : i < n) (hf : f i = true) : (plc i 0 f true).length < cntL n f ∧ (plc n 0 f true).getD (plc i 0 f true).length 0 = i := by
  have e := plc_split (f := f) (t := true) (Nat.zero_le i) (Nat.le_of_lt hi)
  rw [cntL, e, plc_step_yes hi hf]
  constructor
  · simp
  · rw [List.getD_eq_getElem?_getD, List.getElem?_append_right (Nat.le_refl _), Nat.sub_self]
    rfl
theorem head_no {n i : Nat} {f : Nat → Bool} (hi : i < n) (hf : f i = false) (hk : (plc i 0 f true).length < cntL n f) : (plc n 0 f true).getD (plc i 0 f true).length 0 ≠ i := by
  intro h
  have e := plc_split (f := f) (t := true) (Nat.zero_le i) (Nat.le_of_lt hi)
  rw [cntL, e, List.length_append] at hk
  rw [e, List.getD_eq_getElem?_getD, List.getElem?_append_right (Nat.le_refl _), Nat.sub_self, ← List.getD_eq_getElem?_getD] at h
  have := up_mem (l := plc n i f true) (i := 0) (by omega)
  rw [h] at this
  have := (plc_mem.1 this).2.2
  rw [hf] at this
  cases this
theorem len_le {n i : Nat} {f : Nat → Bool} (hi : i ≤ n) : (plc i 0 f true).length ≤ cntL n f := by
  rw [cntL, plc_split (f := f) (t := true) (Nat.zero_le i) hi, List.length_append]
  omega

set_option maxRecDepth 20000 in
set_option maxHeartbeats 1600000 in
theorem rmpfree_any (X n : Nat) (f : Nat → Bool) (A : Option Addr) (z : Int) (w : World) (h : Xp w X n f A) :
    Calls Tryd.prog 31 #[.pointer (some ⟨X, 0, none⟩), .int .i64 z] w (RetNs w (plc n z.toNat f false)) := by
  have hcn : cntL n f ≤ n := cnt_le
  have htop := h.top
  have H := Lib.hid h
  obtain ⟨q, hq⟩ : ∃ q, q = cntL n f := ⟨_, rfl⟩
  have Hq := Lib.hid hq
  rw [← hq] at hcn
  obtain ⟨a, ha⟩ : ∃ a, a = z.toNat := ⟨_, rfl⟩
  rw [← ha]
  have Ha := Lib.hid ha
  clear h hq ha
  go_enter Tryd.func31, Tryd.ntmps31
  go_wp2_with fail
  go_loopw [5, 6, 7] (fun o k x wr => ∃ (i : Nat) (A' : Option Addr) (c' : Nat), i ≤ n ∧ x = .int .i64 (i : Int) ∧ k = .int .i64 ((plc i 0 f true).length : Int) ∧ o = .slice A' (plc i a f false).length c' ∧ Own wr w.heap.size 3 1 A' (plc i a f false).length c' (ncells (plc i a f false)) ∧ Below w.heap.size w wr ∧ ∀ b o, A' = some ⟨b, o, none⟩ → w.heap.size ≤ b) (fun _ _ x _ => n - (intOf x).toNat)
  case atStart => exact ⟨0, none, 0, by omega, rfl, rfl, by rw [plc_end (Nat.zero_le _)]; rfl, by rw [plc_end (Nat.zero_le _)]; exact Own.full (Sl.nil _ 1 0 (by decide)), Below.refl _ _, fun b o e => by cases e⟩
  case round =>
    obtain ⟨i, A', c', hi, rfl, rfl, rfl, ho, hb, hlo⟩ := hrel
    obtain ⟨c, h1, h2⟩ := (H.out.later hb).ex
    rw [← Hq.out] at h1 h2
    have c0 : wr.cell? ⟨X, 0, none⟩ = some (.int .i64 (n : Int)) := by rw [cell_of_row _ _ _ _ _ _ h1]; rfl
    have c1 : wr.cell? ⟨X, 1, none⟩ = some (.slice A q c) := by rw [cell_of_row _ _ _ _ _ _ h1]; rfl
    have Ho := Lib.hid ho
    have Hb := Lib.hid hb
    have Hlo := Lib.hid hlo
    by_cases hlt : i < n
    · have hli := len_le (f := f) (Nat.le_of_lt hlt)
      have hy := fun hf => head_yes (f := f) hlt hf
      have hn := fun hf hk => head_no (f := f) hlt hf hk
      have hsk : ∀ t, plc (i + 1) 0 f t = plc i 0 f t ++ (if f i = t then [i] else []) := fun t => plc_snoc (Nat.zero_le i)
      have hso : a ≤ i → plc (i + 1) a f false = plc i a f false ++ (if f i = false then [i] else []) := fun h => plc_snoc h
      have hsn : i < a → plc (i + 1) a f false = plc i a f false := fun h => by rw [plc_end (by omega), plc_end (by omega)]
      have hil : (plc i a f false).length ≤ i := plc_len_le
      rw [← Hq.out] at hy hn hli
      obtain ⟨k, hk⟩ : ∃ k, k = (plc i 0 f true).length := ⟨_, rfl⟩
      obtain ⟨p, hp⟩ : ∃ p, p = (plc i a f false).length := ⟨_, rfl⟩
      rw [← hk] at hy hn hli
      rw [← hp] at hil
      have hlen : (plc n 0 f true).length = q := Hq.out.symm
      obtain ⟨l, hl⟩ : ∃ l, l = plc n 0 f true := ⟨_, rfl⟩
      rw [← hl] at h2 hy hn hlen
      have ho2 := Ho.out
      rw [← hp] at ho2
      have Ho2 := Lib.hid ho2
      rw [← hk, ← hp]
      have Hk := Lib.hid hk
      have Hp := Lib.hid hp
      have hii : (i : Int) < (n : Int) := by omega
      have Hsk := Lib.hid hsk
      have Hso := Lib.hid hso
      have Hsn := Lib.hid hsn
      have Hy := Lib.hid hy
      have Hn := Lib.hid hn
      clear hk hp ho ho2 hb hlo h1 hl Ho hsk hso hsn hy hn
      cases hf : f i
      · have Hf := Lib.hid hf
        -- not taken
        have hnext : (plc (i + 1) 0 f true).length = k := by rw [Hsk.out, hf, if_neg (by simp), List.append_nil, Hk.out]
        have Hnext := Lib.hid hnext
        clear hnext
        have hgo : ∀ (P : Prop), (k < q → ∀ (b o x : Nat), A = some ⟨b, o, none⟩ → wr.cell? ⟨b, o + k, none⟩ = some (.int .i64 (x : Int)) → ((x : Int) == (i : Int)) = false → P) → (¬ (k : Int) < (q : Int) → P) → P := by
          intro P p1 p2
          by_cases hkq : k < q
          · obtain ⟨b, o, hA, hc⟩ := h2.at_ hkq
            have hcell := hc k _ (ncells_get l k (by rw [hlen]; exact hkq))
            rw [show l[k]'(by rw [hlen]; exact hkq) = l.getD k 0 from by simp [show k < l.length by rw [hlen]; exact hkq]] at hcell
            have hne := Hn.out Hf.out hkq
            obtain ⟨x, hx⟩ : ∃ x, x = l.getD k 0 := ⟨_, rfl⟩
            rw [← hx] at hcell hne
            exact p1 hkq b o x hA hcell (by rw [beq_eq_false_iff_ne]; omega)
          · exact p2 (by omega)
        clear h2 hlen hf
        by_cases hai : a ≤ i
        · have hzi : z ≤ (i : Int) := by have := Ha.out; omega
          have hso2 : plc (i + 1) a f false = plc i a f false ++ [i] := by rw [Hso.out hai, Hf.out, if_pos rfl]
          have Hso2 := Lib.hid hso2
          clear hso2
          refine hgo _ (fun hkq b o x hA hcell hz => ?_) (fun hkq => ?_) <;> clear hgo
          · subst hA
            have hkqi : (k : Int) < (q : Int) := by omega
            go_wp2_with (at_builtin; refine wpList_append_i (B := w.heap.size) rfl (.tmp 39) (.tmp 41) rfl rfl (Ho2.out.below ((Below.refl _ _).alloc (Nat.le_refl _) _)) ?pa1 (some ⟨wr.heap.size, 0, none⟩) 1 1 [i] rfl (Sl.oneN _ _ _ _ rfl) ?pb1 ?pc1)
            case pa1 => have := Hb.out.size; simp; omega
            case pb1 => omega
            intro A3 c3 w4 ho4 hb4 hrow4
            have B4 := Lib.hid ((Hb.out.alloc Hb.out.size _).trans hb4)
            have H4 := Lib.hid ho4
            have HL4 := Lib.hid (own_low hrow4 (by omega))
            clear ho4 hb4 hrow4 hcell
            go_wp2_with fail
            go_roundw
            case rel => exact ⟨i + 1, A3, c3, by omega, by go_num, by rw [Hnext.out], by rw [Hso2.out, List.length_append, List.length_singleton, ← Hp.out], by rw [Hso2.out, List.length_append, List.length_singleton, ← Hp.out, ncells_append]; exact H4.out, B4.out, HL4.out⟩
            case measure => simp [intOf]; omega
          · go_wp2_with (at_builtin; refine wpList_append_i (B := w.heap.size) rfl (.tmp 39) (.tmp 41) rfl rfl (Ho2.out.below ((Below.refl _ _).alloc (Nat.le_refl _) _)) ?pa2 (some ⟨wr.heap.size, 0, none⟩) 1 1 [i] rfl (Sl.oneN _ _ _ _ rfl) ?pb2 ?pc2)
            case pa2 => have := Hb.out.size; simp; omega
            case pb2 => omega
            intro A3 c3 w4 ho4 hb4 hrow4
            have B4 := Lib.hid ((Hb.out.alloc Hb.out.size _).trans hb4)
            have H4 := Lib.hid ho4
            have HL4 := Lib.hid (own_low hrow4 (by omega))
            clear ho4 hb4 hrow4
            go_wp2_with fail
            go_roundw
            case rel => exact ⟨i + 1, A3, c3, by omega, by go_num, by rw [Hnext.out], by rw [Hso2.out, List.length_append, List.length_singleton, ← Hp.out], by rw [Hso2.out, List.length_append, List.length_singleton, ← Hp.out, ncells_append]; exact H4.out, B4.out, HL4.out⟩
            case measure => simp [intOf]; omega
        · have hzi : ¬ z ≤ (i : Int) := by have := Ha.out; omega
          have hso2 : plc (i + 1) a f false = plc i a f false := Hsn.out (by omega)
          have Hso2 := Lib.hid hso2
          clear hso2
          refine hgo _ (fun hkq b o x hA hcell hz => ?_) (fun hkq => ?_) <;> clear hgo
          · subst hA
            have hkqi : (k : Int) < (q : Int) := by omega
            go_wp2_with fail
            go_roundw
            case rel => exact ⟨i + 1, A', c', by omega, by go_num, by rw [Hnext.out], by rw [Hso2.out, ← Hp.out], by rw [Hso2.out, ← Hp.out]; exact Ho2.out, Hb.out, Hlo.out⟩
            case measure => simp [intOf]; omega
          · go_wp2_with fail
            go_roundw
            case rel => exact ⟨i + 1, A', c', by omega, by go_num, by rw [Hnext.out], by rw [Hso2.out, ← Hp.out], by rw [Hso2.out, ← Hp.out]; exact Ho2.out, Hb.out, Hlo.out⟩
            case measure => simp [intOf]; omega
      · have Hf := Lib.hid hf
        obtain ⟨hkq, hkx⟩ := Hy.out hf
        have hnext : (plc (i + 1) 0 f true).length = k + 1 := by rw [Hsk.out, hf, if_pos rfl, List.length_append, ← Hk.out]; rfl
        have hso2 : plc (i + 1) a f false = plc i a f false := by
          rcases Nat.lt_or_ge i a with e | e
          · exact Hsn.out e
          · rw [Hso.out e, hf, if_neg (by simp), List.append_nil]
        have Hnext := Lib.hid hnext
        have Hso2 := Lib.hid hso2
        obtain ⟨b, o, rfl, hc⟩ := h2.at_ hkq
        have hcell := hc k _ (ncells_get l k (by rw [hlen]; exact hkq))
        rw [show l[k]'(by rw [hlen]; exact hkq) = l.getD k 0 from by simp [show k < l.length by rw [hlen]; exact hkq], hkx] at hcell
        have hkqi : (k : Int) < (q : Int) := by omega
        clear h2 hlen hf hnext hso2 hc hkx
        go_wp2_with fail
        go_roundw
        case rel => exact ⟨i + 1, A', c', by omega, by go_num, by rw [Hnext.out]; go_num, by rw [Hso2.out, ← Hp.out], by rw [Hso2.out, ← Hp.out]; exact Ho2.out, Hb.out, Hlo.out⟩
        case measure => simp [intOf]; omega
    · obtain rfl : i = n := by omega
      clear ho hb hlo h1 h2
      go_wp2_with fail
      go_ret
      exact ⟨A', c', rfl, Ho.out, Hb.out, Hlo.out⟩

set_option maxRecDepth 20000 in
set_option maxHeartbeats 800000 in
theorem rmpfirst_any (X n : Nat) (f : Nat → Bool) (A : Option Addr) (z : Int) (w : World) (h : Xp w X n f A) :
    Calls Tryd.prog 16 #[.pointer (some ⟨X, 0, none⟩), .int .i64 z] w fun e w' => e = .returned (.int .i64 (headZ (plc n z.toNat f false))) ∧ Below w.heap.size w w' := by
  have hh := rmpfree_any X n f A z w h
  obtain ⟨l, hl⟩ : ∃ l, l = plc n z.toNat f false := ⟨_, rfl⟩
  rw [← hl] at hh ⊢
  clear h hl
  cases l with
  | nil =>
    go_enter Tryd.func16, Tryd.ntmps16
    go_wp2_with fail
    refine hh.mono ?_; clear hh; rintro e w1 ⟨A1, c1, rfl, ho, hb, -⟩
    clear ho
    have Hb := Lib.hid hb
    clear hb
    go_wp2_with fail
    go_ret
    exact ⟨rfl, Hb.out⟩
  | cons p l =>
    obtain ⟨q, hq⟩ : ∃ q, q = (p :: l).length := ⟨_, rfl⟩
    have hq1 : 1 ≤ q := by rw [hq, List.length_cons]; omega
    unfold RetNs at hh
    rw [← hq] at hh
    have hqz : ((q : Int) == 0) = false := by simp; omega
    have hqi : (0 : Int) < (q : Int) := by omega
    have Hq := Lib.hid hq
    clear hq
    go_enter Tryd.func16, Tryd.ntmps16
    go_wp2_with fail
    refine hh.mono ?_; clear hh; rintro e w1 ⟨A1, c1, rfl, ho, hb, -⟩
    obtain ⟨b, o, rfl, hc⟩ := ho.sl.at_ (k := 0) (by omega)
    have hcell := hc 0 (.int .i64 (p : Int)) rfl
    rw [Nat.add_zero] at hcell
    have Hb := Lib.hid hb
    clear hb hc ho
    go_wp2_with fail
    go_ret
    exact ⟨rfl, Hb.out⟩

set_option maxRecDepth 20000 in
set_option maxHeartbeats 800000 in
theorem rmpleast_any (X n : Nat) (f : Nat → Bool) (A : Option Addr) (y : Int) (w : World) (h : Xp w X n f A) :
    Calls Tryd.prog 21 #[.pointer (some ⟨X, 0, none⟩), .int .i64 y] w fun e w' => ∃ A' c, e = .returned (.slice A' (leastD n f y).length c) ∧ Sl w' 1 A' (leastD n f y).length c (ncells (leastD n f y)) ∧ Below w.heap.size w w' := by
  have hh := rmpfree_any X n f A 0 w h
  have hres : leastD n f y = if y < 1 ∨ (((plc n 0 f false).length : Nat) : Int) < y then [] else (plc n 0 f false).take y.toNat := by
    unfold leastD
    by_cases h1 : y < 1
    · rw [if_pos h1, if_pos (.inl h1)]
    · rw [if_neg h1, leastL]
      by_cases h2 : y.toNat ≤ (plc n 0 f false).length
      · rw [if_pos h2, if_neg (by omega)]
      · rw [if_neg h2, if_pos (by omega)]
  rw [show (0 : Int).toNat = 0 from rfl] at hh
  obtain ⟨l, hl⟩ : ∃ l, l = plc n 0 f false := ⟨_, rfl⟩
  obtain ⟨r, hr⟩ : ∃ r, r = leastD n f y := ⟨_, rfl⟩
  rw [← hl] at hh hres
  rw [← hr] at hres ⊢
  obtain ⟨q, hq⟩ : ∃ q, q = l.length := ⟨_, rfl⟩
  unfold RetNs at hh
  rw [← hq] at hh hres
  have Hq := Lib.hid hq
  clear h hl hr hq
  by_cases h1 : y < 1
  · rw [if_pos (.inl h1)] at hres
    subst hres
    go_enter Tryd.func21, Tryd.ntmps21
    go_wp2_with fail
    refine hh.mono ?_; clear hh; rintro e w1 ⟨A1, c1, rfl, ho, hb, -⟩
    have Hb := Lib.hid hb
    clear hb ho
    go_wp2_with fail
    go_ret
    exact ⟨none, 0, rfl, Sl.nil _ 1 0 (by decide), Hb.out⟩
  · by_cases h2 : (q : Int) < y
    · rw [if_pos (.inr h2)] at hres
      subst hres
      go_enter Tryd.func21, Tryd.ntmps21
      go_wp2_with fail
      refine hh.mono ?_; clear hh; rintro e w1 ⟨A1, c1, rfl, ho, hb, -⟩
      have Hb := Lib.hid hb
      clear hb ho
      go_wp2_with fail
      go_ret
      exact ⟨none, 0, rfl, Sl.nil _ 1 0 (by decide), Hb.out⟩
    · rw [if_neg (by omega)] at hres
      obtain ⟨m, rfl⟩ : ∃ m : Nat, y = (m : Int) := ⟨y.toNat, by omega⟩
      rw [Int.toNat_natCast] at hres
      have hrl : r.length = m := by rw [hres, List.length_take, ← Hq.out]; omega
      rw [hrl]
      have Hr := Lib.hid hres
      have hmq : m ≤ q := by omega
      clear hres hrl
      go_enter Tryd.func21, Tryd.ntmps21
      go_wp2_with fail
      refine hh.mono ?_; clear hh; rintro e w1 ⟨A1, c1, rfl, ho, hb, -⟩
      have hcap := ho.sl.cap
      have hmc : (m : Int) ≤ (c1 : Int) := by omega
      have hm0 : (0 : Int) ≤ (m : Int) := by omega
      have hs := ho.sl.sub 0 m c1 (by omega) hmq (by omega) ho.sl.top
      rw [Nat.zero_mul, Nat.mul_one, List.drop_zero, Nat.sub_zero, show A1.map (·.add 0) = A1 by cases A1 <;> simp [Addr.add], show (ncells l).take m = ncells r by rw [Hr.out, ncells, ncells, List.map_take]] at hs
      have Hs := Lib.hid hs
      have Hb := Lib.hid hb
      clear hb ho hs hcap
      go_wp2_with fail
      go_ret
      exact ⟨A1, c1, by first | rfl | simp, Hs.out, Hb.out⟩
end Go.Proofs.YthkflghekgbgcaaDoor

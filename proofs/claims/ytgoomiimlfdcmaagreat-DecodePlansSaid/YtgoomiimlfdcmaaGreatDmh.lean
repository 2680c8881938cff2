/-
  The contract of the document's Sorted of layer 6. No condition but bounds.
-/
import Derived.Test.YtgoomiimlfdcmaaGreatDma
namespace Go.Proofs.YtgoomiimlfdcmaaGreat
open Go.RowKit Go.Proofs
set_option linter.unusedVariables false

/-- The numbers below i of a list, rising, each as often as it stands there. -/
def srtD (xs : List Int) (i : Nat) : List Int := (List.range i).flatMap fun (j : Nat) => xs.filter fun z => z == (j : Int)
section
variable {xs : List Int} {n : Nat}
theorem srtD_next (xs : List Int) (i : Nat) : srtD xs (i + 1) = srtD xs i ++ xs.filter fun z => z == (i : Int) := by simp [srtD, List.range_succ]
theorem srtD_mem {z : Int} : ∀ {n : Nat}, z ∈ srtD xs n → z ∈ xs ∧ 0 ≤ z ∧ z < (n : Int)
  | 0, h => by simp [srtD] at h
  | n + 1, h => by
    rw [srtD_next] at h
    rcases List.mem_append.1 h with h | h
    · have := srtD_mem h
      exact ⟨this.1, this.2.1, by omega⟩
    · have h1 := List.mem_filter.1 h
      have h2 : z = (n : Int) := by simpa using h1.2
      exact ⟨h1.1, by omega, by omega⟩
theorem srtD_sorted (xs : List Int) : ∀ n : Nat, (srtD xs n).Pairwise fun a b => decide (a ≤ b) = true
  | 0 => by simp [srtD]
  | n + 1 => by
    rw [srtD_next]
    refine List.pairwise_append.2 ⟨srtD_sorted xs n, ?_, fun a ha b hb => ?_⟩
    · refine List.Pairwise.imp_of_mem (R := fun _ _ => True) (fun {a b} ha hb _ => ?_) (List.pairwise_of_forall (fun _ _ => trivial))
      have h1 : a = (n : Int) := by simpa using (List.mem_filter.1 ha).2
      have h2 : b = (n : Int) := by simpa using (List.mem_filter.1 hb).2
      exact decide_eq_true (by omega)
    · have h1 := srtD_mem ha
      have h2 : b = (n : Int) := by simpa using (List.mem_filter.1 hb).2
      exact decide_eq_true (by omega)
theorem srtD_count (xs : List Int) (z : Int) : ∀ n : Nat, (srtD xs n).count z = if 0 ≤ z ∧ z < (n : Int) then xs.count z else 0
  | 0 => by rw [if_neg (by omega)]; simp [srtD]
  | n + 1 => by
    rw [srtD_next, List.count_append, srtD_count xs z n]
    by_cases hz : z = (n : Int)
    · rw [if_neg (by omega), if_pos (by omega), List.count_filter (by simpa using hz), Nat.zero_add]
    · have h0 : (xs.filter fun z => z == (n : Int)).count z = 0 := List.count_eq_zero.2 (fun h => hz (by simpa using (List.mem_filter.1 h).2))
      rw [h0, Nat.add_zero]
      by_cases h1 : 0 ≤ z ∧ z < (n : Int)
      · rw [if_pos h1, if_pos (by omega)]
      · rw [if_neg h1, if_neg (by omega)]
theorem srtD_perm (xs : List Int) (n : Nat) : (srtD xs n).Perm (xs.filter fun z => decide (0 ≤ z ∧ z < (n : Int))) := by
  rw [List.perm_iff_count]
  intro z
  rw [srtD_count]
  by_cases hz : 0 ≤ z ∧ z < (n : Int)
  · rw [if_pos hz, List.count_filter (p := fun z => decide (0 ≤ z ∧ z < (n : Int))) (decide_eq_true hz)]
  · have h0 : (xs.filter fun z => decide (0 ≤ z ∧ z < (n : Int))).count z = 0 := List.count_eq_zero.2 (fun h => hz (of_decide_eq_true (p := 0 ≤ z ∧ z < (n : Int)) (List.mem_filter.1 h).2))
    rw [if_neg hz, h0]
theorem srtD_yes (h : apartB xs n = true) : (srtD xs n).Nodup ∧ (srtD xs n).length = xs.length ∧ srt xs = srtD xs n := by
  have hp := srtD_perm xs n
  rw [List.filter_eq_self.2 (fun z hz => decide_eq_true (apartB_in h z hz))] at hp
  exact ⟨hp.nodup_iff.2 (apartB_nodup h), hp.length_eq, srt_eq hp (srtD_sorted xs n)⟩
theorem srtD_no (h : apartB xs n = false) (hd : (srtD xs n).Nodup) : (srtD xs n).length ≠ xs.length := by
  intro hl
  have hp := srtD_perm xs n
  rw [hp.length_eq, List.length_filter_eq_length_iff] at hl
  rw [List.filter_eq_self.2 hl] at hp
  rw [apartB, decide_eq_true ⟨hp.nodup_iff.1 hd, fun z hz => of_decide_eq_true (hl z hz)⟩] at h
  cases h
/-- Sorted numbers of which no two side by side are alike. -/
theorem srtD_adj (xs : List Int) (n : Nat) (h : ∀ b, 1 ≤ b → b < (srtD xs n).length → (srtD xs n).getD b 0 ≠ (srtD xs n).getD (b - 1) 0) : (srtD xs n).Nodup := by
  have hs := List.pairwise_iff_getElem.1 (srtD_sorted xs n)
  refine List.pairwise_iff_getElem.2 fun i j hi hj hij => ?_
  have h1 := h j (by omega) hj
  rw [show (srtD xs n).getD j 0 = (srtD xs n)[j] from by simp [hj], show (srtD xs n).getD (j - 1) 0 = (srtD xs n)[j - 1]'(by omega) from by simp [show j - 1 < (srtD xs n).length by omega]] at h1
  have h2 : (srtD xs n)[j - 1]'(by omega) ≤ (srtD xs n)[j] := of_decide_eq_true (hs (j - 1) j (by omega) hj (by omega))
  by_cases he : i = j - 1
  · subst he
    exact fun e => h1 e.symm
  · have h3 : (srtD xs n)[i] ≤ (srtD xs n)[j - 1]'(by omega) := of_decide_eq_true (hs i (j - 1) hi (by omega) (by omega))
    omega
theorem srtD_twice (xs : List Int) (n b : Nat) (h1 : 1 ≤ b) (h2 : b < (srtD xs n).length) (h : (srtD xs n).getD b 0 = (srtD xs n).getD (b - 1) 0) : ¬ (srtD xs n).Nodup := by
  intro hd
  rw [show (srtD xs n).getD b 0 = (srtD xs n)[b] from by simp [h2], show (srtD xs n).getD (b - 1) 0 = (srtD xs n)[b - 1]'(by omega) from by simp [show b - 1 < (srtD xs n).length by omega]] at h
  exact List.pairwise_iff_getElem.1 hd (b - 1) b (by omega) h2 (by omega) h.symm
end
theorem icells_snoc (l : List Int) (j : Nat) : icells l ++ ncells [j] = icells (l ++ [(j : Int)]) := by simp [icells, ncells]
theorem filt_next (l : List Int) (j x : Nat) (h : x < l.length) : (l.take (x + 1)).filter (fun z => z == (j : Int)) = (l.take x).filter (fun z => z == (j : Int)) ++ if l[x] = (j : Int) then [(j : Int)] else [] := by
  have e : l.take (x + 1) = l.take x ++ [l[x]] := by simp
  rw [e, List.filter_append]
  by_cases hz : l[x] = (j : Int)
  · rw [if_pos hz, List.filter_cons_of_pos (by simpa using hz), hz]
    rfl
  · rw [if_neg hz, List.filter_cons_of_neg (by simpa using hz)]
    rfl

set_option maxRecDepth 20000 in
set_option maxHeartbeats 3200000 in
theorem rsorted_any (n : Nat) (B : Option Addr) (q d : Nat) (xs : List Int) (w : World) (hs : Sl w 1 B q d (icells xs)) (hn : n ≤ 24) (hq : q ≤ 100) :
    Calls Tryz.prog 19 #[.int .i64 (n : Int), .slice B q d] w fun e w' =>
      ((apartB xs n = true ∧ ∃ (A : Option Addr) (c : Nat), e = .returned (.tuple #[.slice A q c, .bool true]) ∧ Sl w' 1 A q c (ncells (srtN xs))) ∨
        (apartB xs n = false ∧ ∃ (A : Option Addr) (p c : Nat), e = .returned (.tuple #[.slice A p c, .bool false]))) ∧ Below w.heap.size w w' := by
  have hxl : xs.length = q := hs.ofIcells
  have Hs := Lib.hid hs
  have Hxl := Lib.hid hxl
  clear hs hxl
  go_enter Tryz.func19, Tryz.ntmps19
  go_wp2_with fail
  go_loopw [6, 7] (fun v i wr => ∃ (j p : Nat) (A' : Option Addr) (c' : Nat), j ≤ n ∧ p ≤ j * 100 ∧ i = .int .i64 (j : Int) ∧ v = .slice A' p c' ∧ Own wr w.heap.size 3 1 A' p c' (icells (srtD xs j)) ∧ Below w.heap.size w wr) (fun _ i _ => n - (intOf i).toNat)
  case atStart => exact ⟨0, 0, none, 0, by omega, by omega, rfl, rfl, (Own.full (Sl.nil w 1 0 (by decide)) : Own w w.heap.size 3 1 none 0 0 []), Below.refl _ _⟩
  case round =>
    obtain ⟨wl, rfl⟩ : ∃ x, x = wr := ⟨_, rfl⟩
    obtain ⟨j, p, A', c', hj, hp, rfl, rfl, hO, hb⟩ := hrel
    have HO := Lib.hid hO
    have Hb := Lib.hid hb
    clear hO hb
    by_cases hlt : j < n
    · go_wp2_with fail
      go_loopw [6, 8] (fun v kv wi => ∃ (x p : Nat) (A' : Option Addr) (c' : Nat), x ≤ q ∧ p ≤ j * 100 + x ∧ kv = .int .i64 (x : Int) ∧ v = .slice A' p c' ∧ Own wi w.heap.size 3 1 A' p c' (icells (srtD xs j ++ (xs.take x).filter fun z => z == (j : Int))) ∧ Below w.heap.size w wi) (fun _ kv _ => q - (intOf kv).toNat)
      case atStart => exact ⟨0, p, A', c', by omega, by omega, rfl, rfl, by simpa using HO.out, Hb.out⟩
      case round =>
        obtain ⟨wi, rfl⟩ : ∃ x, x = wr := ⟨_, rfl⟩
        clear HO Hb
        obtain ⟨x, p2, A2, c2, hx, hp2, rfl, rfl, hO, hb⟩ := hrel
        have HO := Lib.hid hO
        have Hb := Lib.hid hb
        have hszi := hb.size
        clear hO
        by_cases hxq : x < q
        · obtain ⟨bh, oh, rfl, hch⟩ := (Hs.out.below hb (Nat.le_refl _)).at_ hxq
          have hxl : x < xs.length := by rw [Hxl.out]; exact hxq
          have hcell := hch x _ (icells_get xs x hxl)
          have hnext := filt_next xs j x hxl
          obtain ⟨z, hz⟩ : ∃ z, z = xs[x] := ⟨_, rfl⟩
          rw [← hz] at hcell hnext
          have hxi : (x : Int) < (q : Int) := by omega
          clear hch hz hb
          by_cases hzj : z = (j : Int)
          · rw [if_pos hzj] at hnext
            have Hnext := Lib.hid hnext
            have hzb : (z == (j : Int)) = true := by simpa using hzj
            have hwin : w.heap.size ≤ (wi.alloc (.cells #[.int .i64 (j : Int)] 3)).heap.size := by simp; omega
            clear hnext hzj
            go_wp2_with (at_builtin; refine wpList_append_i (B := w.heap.size) rfl (.tmp 27) (.tmp 29) rfl rfl (HO.out.alloc _) hwin (some ⟨wi.heap.size, 0, none⟩) 1 1 [j] rfl (Sl.oneN _ _ _ _ rfl) ?pb ?pc)
            case pb => omega
            intro A3 c3 w3 ho3 hb3 _
            rw [icells_snoc, List.append_assoc, ← Hnext.out] at ho3
            have Ho3 := Lib.hid ho3
            have Hb3 := Lib.hid ((Hb.out.alloc hszi _).trans hb3)
            clear ho3 hb3
            go_wp2_with fail
            go_roundw
            case rel => exact ⟨x + 1, p2 + 1, A3, c3, by omega, by omega, by go_num, rfl, Ho3.out, Hb3.out⟩
            case measure => simp [intOf]; omega
          · rw [if_neg hzj, List.append_nil] at hnext
            have Hnext := Lib.hid hnext
            have hzb : (z == (j : Int)) = false := by simpa using hzj
            clear hnext hzj
            go_wp2_with fail
            go_roundw
            case rel => exact ⟨x + 1, p2, A2, c2, by omega, by omega, by go_num, rfl, by rw [Hnext.out]; exact HO.out, Hb.out⟩
            case measure => simp [intOf]; omega
        · obtain rfl : x = q := by omega
          have hxi : ¬ ((x : Int) < (x : Int)) := by omega
          have ho := HO.out
          rw [List.take_of_length_le (by rw [Hxl.out]; exact Nat.le_refl _), ← srtD_next] at ho
          have Ho := Lib.hid ho
          clear ho hb
          go_wp2_with fail
          go_roundw
          case rel => exact ⟨j + 1, p2, A2, c2, by omega, by omega, by go_num, rfl, Ho.out, Hb.out⟩
          case measure => simp [intOf]; omega
    · obtain rfl : j = n := by omega
      have hji : ¬ ((j : Int) < (j : Int)) := by omega
      have hpl : (srtD xs j).length = p := by
        have := HO.out.sl.len
        rw [icells_length] at this
        omega
      have HS := Lib.hid HO.out.sl
      obtain ⟨D, hD⟩ : ∃ D, D = srtD xs j := ⟨_, rfl⟩
      have HD := Lib.hid hD
      rw [← hD] at hpl HS
      have Hpl := Lib.hid hpl
      clear hD hpl HO
      go_wp2_with fail
      go_loopw [9] (fun i wr => ∃ a : Nat, 1 ≤ a ∧ i = .int .i64 (a : Int) ∧ (a ≤ p ∨ a = 1) ∧ (∀ b, 1 ≤ b → b < a → D.getD b 0 ≠ D.getD (b - 1) 0) ∧ Below wl.heap.size wl wr) (fun i _ => p - (intOf i).toNat)
      case atStart => exact ⟨1, by omega, rfl, .inr rfl, fun b h1 h2 => absurd h1 (by omega), Below.refl _ _⟩
      case round =>
        obtain ⟨a, ha1, rfl, hap, hall, hb⟩ := hrel
        have Hall := Lib.hid hall
        clear hall
        by_cases hlta : a < p
        · obtain ⟨gb, go, rfl, hcn⟩ := (HS.out.below hb (Nat.le_refl _)).at_ hlta
          have hal : a < D.length := by rw [Hpl.out]; exact hlta
          have n1 := hcn a _ (icells_get D a hal)
          have n0 := hcn (a - 1) _ (icells_get D (a - 1) (by omega))
          rw [show D[a]'hal = D.getD a 0 from by simp [hal]] at n1
          rw [show D[a - 1]'(by omega) = D.getD (a - 1) 0 from by simp [show a - 1 < D.length by omega]] at n0
          obtain ⟨z1, hz1⟩ : ∃ x, x = D.getD a 0 := ⟨_, rfl⟩
          obtain ⟨z0, hz0⟩ : ∃ x, x = D.getD (a - 1) 0 := ⟨_, rfl⟩
          rw [← hz1] at n1
          rw [← hz0] at n0
          have Hz1 := Lib.hid hz1
          have Hz0 := Lib.hid hz0
          obtain ⟨a0, rfl⟩ : ∃ a0, a = a0 + 1 := ⟨a - 1, by omega⟩
          rw [show a0 + 1 - 1 = a0 from by omega] at n0
          have Hal := Lib.hid hal
          clear hcn hz1 hz0 hal
          by_cases heq : z1 = z0
          · have hzz : (z1 == z0) = true := by simpa using heq
            have Heq := Lib.hid heq
            clear heq
            go_wp2_with fail
            go_quiet (fail)
            go_wp2_with fail
            go_ret2
            exact ⟨.inr ⟨by
              cases hA : apartB xs j
              · rfl
              · have h9 := (srtD_yes hA).1
                have h8 := srtD_twice xs j (a0 + 1) (by omega) (by rw [← HD.out]; exact Hal.out) (by rw [← HD.out, ← Hz1.out, ← Hz0.out, Heq.out])
                exact absurd h9 h8, none, 0, 0, rfl⟩, Hb.out.trans ((below_drewN hb nq).mono Hb.out.size)⟩
          · have hzz : (z1 == z0) = false := by simpa using heq
            have Heq := Lib.hid heq
            clear heq
            go_wp2_with fail
            go_quiet (fail)
            go_wp2_with fail
            go_roundw
            case rel => exact ⟨a0 + 1 + 1, by omega, by go_num, by omega, fun b h1 h2 => by
              by_cases hba : b = a0 + 1
              · subst hba
                rw [← Hz1.out, ← Hz0.out]
                exact Heq.out
              · exact Hall.out b h1 (by omega), below_drewN hb nq⟩
            case measure => simp [intOf]; omega
        · have hai : ¬ ((a : Int) < (p : Int)) := by omega
          have hnd : (srtD xs j).Nodup := srtD_adj xs j fun b h1 h2 => by
            rw [← HD.out] at h2 ⊢
            exact Hall.out b h1 (by rw [Hpl.out] at h2; omega)
          have Hnd := Lib.hid hnd
          have hbf := Hb.out.trans (hb.mono Hb.out.size)
          have Hbf := Lib.hid hbf
          have HSf := Lib.hid (HS.out.below hb (Nat.le_refl _))
          clear hnd hbf hb
          by_cases hpq : p = q
          · subst hpq
            have hpp : (((p : Nat) : Int) == (p : Int)) = true := by simp
            go_wp2_with fail
            go_ret2
            have hA : apartB xs j = true := by
              cases hA : apartB xs j
              · exact absurd (by rw [← HD.out, Hpl.out, Hxl.out]) (srtD_no hA Hnd.out)
              · rfl
            exact ⟨.inl ⟨hA, A', c', rfl, by
              rw [← srt_cells hA]
              show Sl _ 1 A' p c' (icells (srt xs))
              rw [(srtD_yes hA).2.2, ← HD.out]
              exact HSf.out⟩, Hbf.out⟩
          · have hpp : (((p : Nat) : Int) == (q : Int)) = false := by simp; omega
            have Hpq := Lib.hid hpq
            clear hpq
            go_wp2_with fail
            go_ret2
            exact ⟨.inr ⟨by
              cases hA : apartB xs j
              · rfl
              · have h9 := (srtD_yes hA).2.1
                rw [← HD.out, Hpl.out, Hxl.out] at h9
                exact absurd h9 Hpq.out, A', p, c', rfl⟩, Hbf.out⟩
end Go.Proofs.YtgoomiimlfdcmaaGreat

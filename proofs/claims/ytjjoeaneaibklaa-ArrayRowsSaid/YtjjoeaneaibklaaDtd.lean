/-
  Contracts of package array's count, each, Flush, Alive and Copy (layer 10), over what is known of package drive ('DrvK'). Condition: the array is not nil; bounds.
-/
import Derived.Test.YtjjoeaneaibklaaDtc
namespace Go.Proofs.Ytjjoeaneaibklaa
open Go.RowKit Go.Proofs
set_option linter.unusedVariables false

theorem info_errno : (Try.prog.info? 44).map (fun i => (i.zero, i.size, i.bytes)) = some (some (.int .i64 0), 1, 8) := by kernel_rfl
theorem info_bool : (Try.prog.info? 4).map (fun i => (i.zero, i.size, i.bytes)) = some (some (.bool false), 1, 1) := by kernel_rfl
theorem info_pd : (Try.prog.info? 59).map (fun i => (i.zero, i.size, i.bytes)) = some (some (.pointer none), 1, 8) := by kernel_rfl
theorem bcells_get (l : List Bool) (j : Nat) (h : j < l.length) : (bcells l)[j]? = some (.bool l[j]) := by simp [bcells, h]
theorem bcells_length (l : List Bool) : (bcells l).length = l.length := by simp [bcells]
theorem icells_append (l k : List Int) : icells (l ++ k) = icells l ++ icells k := by simp [icells]
theorem bcells_append (l k : List Bool) : bcells (l ++ k) = bcells l ++ bcells k := by simp [bcells]
section
variable {Rep : World → (Nat → Prop) → Nat → Dv → Prop} {w w' : World} {S : Nat → Prop} {A c i : Nat} {AL : Option Addr} {ds : List Ds} {d : Ds} {xs : List Dv}
theorem count_next {α : Type} [BEq α] [LawfulBEq α] {l : List α} {k : Nat} {z a : α} (h : l[k]? = some z) : (l.take (k + 1)).count a = (l.take k).count a + (if z == a then 1 else 0) := by
  rw [take_next h, List.count_append, List.count_singleton]
theorem count_yes {α : Type} [BEq α] [LawfulBEq α] {l : List α} {k : Nat} {z : α} (h : l[k]? = some z) : (l.take (k + 1)).count z = (l.take k).count z + 1 := by rw [count_next h]; simp
theorem count_no {α : Type} [BEq α] [LawfulBEq α] {l : List α} {k : Nat} {z a : α} (h : l[k]? = some z) (hz : ¬ z = a) : (l.take (k + 1)).count a = (l.take k).count a := by rw [count_next h]; simp [hz]
theorem count_cap {α : Type} [BEq α] [LawfulBEq α] (l : List α) (k : Nat) (a : α) : (l.take k).count a ≤ k := Nat.le_trans List.count_le_length (by rw [List.length_take]; omega)
set_option maxRecDepth 100000
set_option maxHeartbeats 1600000
theorem arcount_e {A : Option Addr} {n c : Nat} {l : List Int} (h : Sl w 1 A n c (icells l)) (hn : n ≤ 1048576) : Calls Try.prog 56 #[.int .i64 0, .slice A n c] w fun e w' => e = .returned (.int .i64 (l.count 0 : Nat)) ∧ w' = w := by
  have hl : l.length = n := by have := h.len; rw [icells_length] at this; omega
  have HS := Lib.hid h
  obtain ⟨r, hr⟩ : ∃ r, r = l.count 0 := ⟨_, rfl⟩
  rw [← hr]
  have Hr := Lib.hid hr
  clear h hr
  go_enter Try.func56, Try.ntmps56
  go_wp2_with fail
  go_loopw [5, 10] (fun v i wr => ∃ k y : Nat, k ≤ n ∧ y = (l.take k).count 0 ∧ i = .int .i64 (k : Int) ∧ v = .int .i64 (y : Int) ∧ wr = w) (fun _ i _ => n - (intOf i).toNat)
  case atStart => exact ⟨0, 0, by omega, by simp, rfl, rfl, rfl⟩
  case round =>
    obtain ⟨k, y, hk, hy, rfl, rfl, hw⟩ := hrel
    obtain rfl : w = wr := hw.symm
    by_cases hlt : k < n
    · have hki : (k : Int) < (n : Int) := by omega
      obtain ⟨b, o, rfl, hc⟩ := HS.out.at_ hlt
      have hzl : l[k]? = some (l[k]'(by omega)) := List.getElem?_eq_getElem _
      obtain ⟨z, hz⟩ : ∃ z, z = l[k]'(by omega) := ⟨_, rfl⟩
      rw [← hz] at hzl
      have hcell := hc k (.int .i64 z) (by rw [icells, List.getElem?_map, hzl]; rfl)
      have hcap := count_cap l k (0 : Int)
      have hyk : y ≤ k := by omega
      have Hy := Lib.hid hy
      have Hz := Lib.hid hzl
      clear hy hz hc hzl hcap
      by_cases hz0 : z = 0
      · subst hz0
        go_wp2_with fail
        go_roundw
        case rel => exact ⟨k + 1, y + 1, by omega, by rw [count_yes Hz.out, Hy.out], by go_num, by go_num, by first | rfl | trivial⟩
        case measure => simp [intOf]; omega
      · go_wp2_with fail
        go_roundw
        case rel => exact ⟨k + 1, y, by omega, by rw [count_no Hz.out hz0, Hy.out], by go_num, rfl, by first | rfl | trivial⟩
        case measure => simp [intOf]; omega
    · obtain rfl : k = n := by omega
      obtain rfl : r = y := by rw [Hr.out, hy, List.take_of_length_le (by omega)]
      clear hy
      go_wp2_with fail
      go_ret
      exact ⟨rfl, rfl⟩
theorem arcount_b {A : Option Addr} {n c : Nat} {l : List Bool} (h : Sl w 1 A n c (bcells l)) (hn : n ≤ 1048576) : Calls Try.prog 43 #[.bool false, .slice A n c] w fun e w' => e = .returned (.int .i64 (l.count false : Nat)) ∧ w' = w := by
  have hl : l.length = n := by have := h.len; rw [bcells_length] at this; omega
  have HS := Lib.hid h
  obtain ⟨r, hr⟩ : ∃ r, r = l.count false := ⟨_, rfl⟩
  rw [← hr]
  have Hr := Lib.hid hr
  clear h hr
  go_enter Try.func43, Try.ntmps43
  go_wp2_with fail
  go_loopw [5, 10] (fun v i wr => ∃ k y : Nat, k ≤ n ∧ y = (l.take k).count false ∧ i = .int .i64 (k : Int) ∧ v = .int .i64 (y : Int) ∧ wr = w) (fun _ i _ => n - (intOf i).toNat)
  case atStart => exact ⟨0, 0, by omega, by simp, rfl, rfl, rfl⟩
  case round =>
    obtain ⟨k, y, hk, hy, rfl, rfl, hw⟩ := hrel
    obtain rfl : w = wr := hw.symm
    by_cases hlt : k < n
    · have hki : (k : Int) < (n : Int) := by omega
      obtain ⟨b, o, rfl, hc⟩ := HS.out.at_ hlt
      have hzl : l[k]? = some (l[k]'(by omega)) := List.getElem?_eq_getElem _
      obtain ⟨z, hz⟩ : ∃ z, z = l[k]'(by omega) := ⟨_, rfl⟩
      rw [← hz] at hzl
      have hcell := hc k (.bool z) (by rw [bcells, List.getElem?_map, hzl]; rfl)
      have hcap := count_cap l k false
      have hyk : y ≤ k := by omega
      have Hy := Lib.hid hy
      have Hz := Lib.hid hzl
      clear hy hz hc hzl hcap
      cases z
      · go_wp2_with fail
        go_roundw
        case rel => exact ⟨k + 1, y + 1, by omega, by rw [count_yes Hz.out, Hy.out], by go_num, by go_num, by first | rfl | trivial⟩
        case measure => simp [intOf]; omega
      · go_wp2_with fail
        go_roundw
        case rel => exact ⟨k + 1, y, by omega, by rw [count_no Hz.out (by decide), Hy.out], by go_num, rfl, by first | rfl | trivial⟩
        case measure => simp [intOf]; omega
    · obtain rfl : k = n := by omega
      obtain rfl : r = y := by rw [Hr.out, hy, List.take_of_length_le (by omega)]
      clear hy
      go_wp2_with fail
      go_ret
      exact ⟨rfl, rfl⟩
theorem areach_flush (K : DrvK Rep) (h : AP Rep w S A xs) (hw : Wl 100000 xs) (hx255 : xs.length ≤ 255) : Calls Try.prog 64 #[.pointer (some ⟨A, 0, none⟩), .func (.func 65) #[] #[]] w fun e w' => ∃ A' c', e = .returned (.slice A' xs.length c') ∧ Sl w' 1 A' xs.length c' (icells (flushA xs xs.length)) ∧ MutA Rep S A (flushS xs xs.length) w w' := by
  have hN := arN_any h
  obtain ⟨i0, hi0, hz0, hz1, hz2⟩ := info_parts info_errno
  have Hi := Lib.hid hi0
  have Hz0 := Lib.hid hz0
  have Hz1 := Lib.hid hz1
  have Hz2 := Lib.hid hz2
  have HW := Lib.hid hw
  have H0 := Lib.hid h
  obtain ⟨n, hn⟩ : ∃ n, n = xs.length := ⟨_, rfl⟩
  rw [← hn] at hN hx255 ⊢
  have HN := Lib.hid hn
  clear hi0 hz0 hz1 hz2 hw h hn
  go_enter Try.func64, Try.ntmps64
  go_wp2_with fail
  refine hN.mono ?_; clear hN; rintro e w1 ⟨rfl, hw1⟩
  obtain rfl : w = w1 := hw1.symm
  go_wp2_with fail
  go_loopw [5, 9] (fun v i wr => ∃ (t : Nat) (A' : Option Addr) (c' : Nat) (S' : Nat → Prop), t ≤ n ∧ i = .int .i64 (t : Int) ∧ v = .slice A' t c' ∧ Rn wr A' 44 1 t c' (icells (flushA xs t)) ∧ (∀ b, Bk A' b → w.heap.size ≤ b ∧ ¬ S' b) ∧ AP Rep wr S' A (flushS xs t) ∧ Nxt S S' w wr) (fun _ i _ => n - (intOf i).toNat)
  case atStart => exact ⟨0, none, 0, S, by omega, rfl, rfl, .inl ⟨rfl, rfl, rfl, by simp [flushA, icells]⟩, (fun b hb => by obtain ⟨o, hb⟩ := hb; cases hb), by rw [flushS, upTo_zero]; exact H0.out, Nxt.refl _ _⟩
  case round =>
    obtain ⟨t, A', c', S', ht, rfl, rfl, hrn, hA', ha, hnx⟩ := hrel
    by_cases hlt : t < n
    · have hti : (t : Int) < (n : Int) := by omega
      have hx : xs[t]? = some (xs[t]'(by have := HN.out; omega)) := List.getElem?_eq_getElem _
      obtain ⟨x, hxe⟩ : ∃ x, x = xs[t]'(by have := HN.out; omega) := ⟨_, rfl⟩
      rw [← hxe] at hx
      obtain ⟨AL, c, ds, ha, hxs⟩ := ha
      obtain ⟨d, hd, hdx⟩ := xs_at hxs (upTo_here hx)
      have c0 := ha.c0
      rw [xs_len hxs, flushS, upTo_len, ← HN.out] at c0
      obtain ⟨g, rfl, hg⟩ := ha.at_ (by have := get_lt hd; omega)
      have cg := hg t d hd
      unfold Ds.ptr at cg
      have hC := K.flush (by rw [hdx]; exact HW.out t x hx) (ha.rep t d hd).1
      rw [hdx] at hC
      have HA := Lib.hid ha
      have HXS := Lib.hid hxs
      have HD := Lib.hid hd
      have HX := Lib.hid hx
      have HRN := Lib.hid hrn
      have HA' := Lib.hid hA'
      have HNX := Lib.hid hnx
      obtain ⟨v, hv⟩ : ∃ v, v = x.flushX := ⟨_, rfl⟩
      rw [← hv] at hC
      have HV := Lib.hid hv
      clear hv ha hxs hd hx hrn hA' hnx hg hxe hdx
      go_wp2_with fail
      refine hC.mono ?_; clear hC; rintro e w2 ⟨rfl, S2, hr2, hf2, hs2⟩
      obtain ⟨S3, har, hn3⟩ := HA.out.turn K.lay K.lay (fun _ _ _ _ q => q) HXS.out HD.out hr2 hf2 hs2
      have HRN2 := Lib.hid (HRN.out.fr hn3.1 (fun b hb => (HA'.out b hb).2))
      have HAR := Lib.hid har
      have HN3 := Lib.hid hn3
      clear hr2 hf2 hs2 har hn3 c0 cg
      go_wp2_with (at_builtin; refine wpList_append_made (w := w2) (T := 44) (v := .int .i64 v) rfl (.tmp 12) (.tmp 22) 88 88 rfl i0 (.int .i64 0) 8 Try.underlying88 Try.underlying88 Hi.out Hz0.out Hz1.out Hz2.out rfl (by decide) rfl HRN2.out rfl rfl (by omega) ?pd)
      intro A3 c3 w3 hrn3 hf3 ho3
      have HRN3 := Lib.hid hrn3
      have HST := Lib.hid (ans_step K.lay HRN.out HA'.out HNX.out HAR.out HN3.out hf3 ho3)
      clear hrn3 hf3 ho3
      go_wp2_with fail
      go_roundw
      case rel =>
        refine ⟨t + 1, A3, c3, S3, by omega, by go_num, rfl, ?_, HST.out.2.2, ?_, HST.out.2.1⟩
        · rw [flushA_next HX.out, icells_append, ← HV.out]; exact HRN3.out
        · have := HST.out.1
          rw [flushS, upTo_set (F := fun _ x => x.flush1) HX.out] at this
          exact this
      case measure => simp [intOf]; omega
    · obtain rfl : t = n := by omega
      have HRN := Lib.hid hrn
      have HM := Lib.hid (show MutA Rep S A (flushS xs t) w wr from ⟨S', ha, hnx⟩)
      clear hrn hA' ha hnx
      go_wp2_with fail
      go_ret
      exact ⟨A', c', rfl, HRN.out.sl, HM.out⟩
theorem areach_dead (K : DrvK Rep) (h : AP Rep w S A xs) (hx255 : xs.length ≤ 255) : Calls Try.prog 44 #[.pointer (some ⟨A, 0, none⟩), .func (.func 45) #[] #[]] w fun e w' => ∃ A' c', e = .returned (.slice A' xs.length c') ∧ Sl w' 1 A' xs.length c' (bcells (goneA xs xs.length)) ∧ Below w.heap.size w w' := by
  have hN := arN_any h
  obtain ⟨i0, hi0, hz0, hz1, hz2⟩ := info_parts info_bool
  have Hi := Lib.hid hi0
  have Hz0 := Lib.hid hz0
  have Hz1 := Lib.hid hz1
  have Hz2 := Lib.hid hz2
  have H0 := Lib.hid h
  obtain ⟨n, hn⟩ : ∃ n, n = xs.length := ⟨_, rfl⟩
  rw [← hn] at hN hx255 ⊢
  have HN := Lib.hid hn
  clear hi0 hz0 hz1 hz2 h hn
  go_enter Try.func44, Try.ntmps44
  go_wp2_with fail
  refine hN.mono ?_; clear hN; rintro e w1 ⟨rfl, hw1⟩
  obtain rfl : w = w1 := hw1.symm
  go_wp2_with fail
  go_loopw [5, 9] (fun v i wr => ∃ (t : Nat) (A' : Option Addr) (c' : Nat), t ≤ n ∧ i = .int .i64 (t : Int) ∧ v = .slice A' t c' ∧ Rn wr A' 4 1 t c' (bcells (goneA xs t)) ∧ (∀ b, Bk A' b → w.heap.size ≤ b) ∧ Below w.heap.size w wr) (fun _ i _ => n - (intOf i).toNat)
  case atStart => exact ⟨0, none, 0, by omega, rfl, rfl, .inl ⟨rfl, rfl, rfl, by simp [goneA, bcells]⟩, (fun b hb => by obtain ⟨o, hb⟩ := hb; cases hb), Below.refl _ _⟩
  case round =>
    obtain ⟨t, A', c', ht, rfl, rfl, hrn, hA', hb⟩ := hrel
    by_cases hlt : t < n
    · have hti : (t : Int) < (n : Int) := by omega
      have hx : xs[t]? = some (xs[t]'(by have := HN.out; omega)) := List.getElem?_eq_getElem _
      obtain ⟨x, hxe⟩ : ∃ x, x = xs[t]'(by have := HN.out; omega) := ⟨_, rfl⟩
      rw [← hxe] at hx
      obtain ⟨AL, c, ds, ha, hxs⟩ := H0.out.later K.lay hb
      obtain ⟨d, hd, hdx⟩ := xs_at hxs hx
      have c0 := ha.c0
      rw [xs_len hxs, ← HN.out] at c0
      obtain ⟨g, rfl, hg⟩ := ha.at_ (by have := get_lt hd; omega)
      have cg := hg t d hd
      unfold Ds.ptr at cg
      have hC := K.dead (ha.rep t d hd).1
      rw [hdx] at hC
      have HX := Lib.hid hx
      have HRN := Lib.hid hrn
      have HA' := Lib.hid hA'
      have HB := Lib.hid hb
      obtain ⟨v, hv⟩ : ∃ v, v = x.gone := ⟨_, rfl⟩
      rw [← hv] at hC
      have HV := Lib.hid hv
      clear hv ha hxs hd hx hrn hA' hb hg hxe hdx
      go_wp2_with fail
      refine hC.mono ?_; clear hC; rintro e w2 ⟨rfl, hb2⟩
      have HRN2 := Lib.hid (HRN.out.later hb2)
      have HB2 := Lib.hid (HB.out.trans (hb2.mono HB.out.size))
      have hz2' := hb2.size
      clear hb2 c0 cg
      go_wp2_with (at_builtin; refine wpList_append_made (w := w2) (T := 4) (v := .bool v) rfl (.tmp 12) (.tmp 22) 56 56 rfl i0 (.bool false) 1 Try.underlying56 Try.underlying56 Hi.out Hz0.out Hz1.out Hz2.out rfl (by decide) rfl HRN2.out rfl rfl (by omega) ?pd)
      intro A3 c3 w3 hrn3 hf3 ho3
      have HRN3 := Lib.hid hrn3
      have HB3 := Lib.hid (show Below w.heap.size w w3 from HB2.out.trans (hf3.below HB2.out.size HA'.out))
      have HA3 := Lib.hid (show ∀ b, Bk A3 b → w.heap.size ≤ b from fun b hb => by
        rcases ho3 with rfl | ⟨g, rfl, hg⟩
        · exact HA'.out b hb
        · obtain ⟨o, hb⟩ := hb
          injection hb with hb
          injection hb with hb _
          have := HB2.out.size
          omega)
      clear hrn3 hf3 ho3
      go_wp2_with fail
      go_roundw
      case rel =>
        refine ⟨t + 1, A3, c3, by omega, by go_num, rfl, ?_, HA3.out, HB3.out⟩
        rw [goneA_next HX.out, bcells_append, ← HV.out]; exact HRN3.out
      case measure => simp [intOf]; omega
    · obtain rfl : t = n := by omega
      have HRN := Lib.hid hrn
      have HB := Lib.hid hb
      clear hrn hA' hb
      go_wp2_with fail
      go_ret
      exact ⟨A', c', rfl, HRN.out.sl, HB.out⟩
theorem arflush_any (K : DrvK Rep) (h : AP Rep w S A xs) (hw : Wl 100000 xs) (hx255 : xs.length ≤ 255) : Calls Try.prog 31 #[.pointer (some ⟨A, 0, none⟩)] w fun e w' => e = .returned (.int .i64 (flushN xs xs.length : Nat)) ∧ MutA Rep S A (flushS xs xs.length) w w' := by
  have hE := areach_flush K h hw hx255
  unfold flushN
  obtain ⟨l, hl⟩ : ∃ l, l = flushA xs xs.length := ⟨_, rfl⟩
  rw [← hl] at hE ⊢
  obtain ⟨n, hn⟩ : ∃ n, n = xs.length := ⟨_, rfl⟩
  rw [← hn] at hE ⊢
  have hn2 : n ≤ 255 := by omega
  clear h hw hl hn hx255
  go_enter Try.func31, Try.ntmps31
  go_wp2_with fail
  refine hE.mono ?_; clear hE; rintro e w2 ⟨A', c', rfl, hs, hm⟩
  have HM := Lib.hid hm
  have hC := arcount_e hs (by omega)
  clear hs hm
  go_wp2_with fail
  refine hC.mono ?_; clear hC; rintro e w3 ⟨rfl, hw3⟩
  obtain rfl : w2 = w3 := hw3.symm
  go_wp2_with fail
  go_ret
  exact ⟨rfl, HM.out⟩
theorem aralive_any (K : DrvK Rep) (h : AP Rep w S A xs) (hx255 : xs.length ≤ 255) : Calls Try.prog 12 #[.pointer (some ⟨A, 0, none⟩)] w fun e w' => e = .returned (.int .i64 (aliveN xs xs.length : Nat)) ∧ Below w.heap.size w w' := by
  have hE := areach_dead K h hx255
  unfold aliveN
  obtain ⟨l, hl⟩ : ∃ l, l = goneA xs xs.length := ⟨_, rfl⟩
  rw [← hl] at hE ⊢
  obtain ⟨n, hn⟩ : ∃ n, n = xs.length := ⟨_, rfl⟩
  rw [← hn] at hE
  have hn2 : n ≤ 255 := by omega
  clear h hl hn hx255
  go_enter Try.func12, Try.ntmps12
  go_wp2_with fail
  refine hE.mono ?_; clear hE; rintro e w2 ⟨A', c', rfl, hs, hb⟩
  have HB := Lib.hid hb
  have hC := arcount_b hs (by omega)
  clear hs hb
  go_wp2_with fail
  refine hC.mono ?_; clear hC; rintro e w3 ⟨rfl, hw3⟩
  obtain rfl : w2 = w3 := hw3.symm
  go_wp2_with fail
  go_ret
  exact ⟨rfl, HB.out⟩
end
end Go.Proofs.Ytjjoeaneaibklaa

/-
  The statements' own examples of layer 5 ('codes') answer true. No condition.
-/
import Derived.Test.YtgnkgogdkplcoaaCbc
import Derived.Test.YtgnkgogdkplcoaaCbd
import Derived.Test.YtgnkgogdkplcoaaCbb
namespace Go.Proofs.Ytgnkgogdkplcoaa
open Go.RowKit Go.Proofs
set_option linter.unusedVariables false

theorem cnew_at (F T : Nat) (k m : Int) (K M : Nat) (hk : k = (K : Int)) (hm : m = (M : Int)) (h : 1 ≤ K ∧ 1 ≤ M ∧ K + M ≤ 255) (w : World) (hf : Fld w F T) :
    Calls Try.prog 8 #[.pointer (some ⟨F, 0, none⟩), .int .i64 k, .int .i64 m] w fun e w' => ∃ C, e = .returned (.pointer (some ⟨C, 0, none⟩)) ∧ Cod w' C K M F T ∧ Fr (Ft T) w w' := by
  refine (cnew_any F T k m (by omega) (by omega) w hf).mono ?_; rintro e w' ⟨hR, _, hr⟩
  rcases hR with ⟨hno, _⟩ | ⟨K', M', C, h1, h2, he, hC⟩
  · rw [mayB_t (by omega)] at hno
    cases hno
  · obtain rfl : K' = K := by omega
    obtain rfl : M' = M := by omega
    exact ⟨C, he, hC, hr⟩
theorem cnew_no (F T : Nat) (k m : Int) (hk : -9223372036854775808 ≤ k ∧ k < 9223372036854775808) (hm : -9223372036854775808 ≤ m ∧ m < 9223372036854775808) (h : mayB k m = false) (w : World) (hf : Fld w F T) :
    Calls Try.prog 8 #[.pointer (some ⟨F, 0, none⟩), .int .i64 k, .int .i64 m] w fun e w' => e = .returned (.pointer none) ∧ Fld1 w' F T ∧ Fr (Ft T) w w' := by
  refine (cnew_any F T k m hk hm w hf).mono ?_; rintro e w' ⟨hR, h1, hr⟩
  rcases hR with ⟨_, he⟩ | ⟨K', M', C, e1, e2, _, hC⟩
  · exact ⟨he, h1, hr⟩
  · rw [mayB_t (by have := hC.k1; have := hC.m1; have := hC.n255; omega)] at h
    cases h

theorem sl_blk {w : World} {g : Nat} {cs : Array Value} {l : List UInt8} (hg : w.heap[g]? = some (.cells cs 5 (0, 0))) (hc : cs.toList = cells l) (hl : l.length ≤ maxLen) : Sl w 1 (some ⟨g, 0, none⟩) l.length l.length (cells l) :=
  ⟨by rw [cells_length, Nat.mul_one], Nat.le_refl _, hl, fun j u hu => ⟨g, 0, rfl, by rw [cell_of_row _ _ _ _ _ _ hg, Nat.zero_add]; rw [← hc] at hu; simpa using hu⟩⟩
theorem gr_lit1 (w : World) (cs : Array Value) (l : List UInt8) (hc : cs.toList = cells l) (hl : l.length ≤ maxLen) : Gr ((w.alloc (.cells cs 5)).alloc (.cells #[.slice (some ⟨w.heap.size, 0, none⟩) l.length l.length] 29)) (some ⟨w.heap.size + 1, 0, none⟩) 1 1 [l] := by
  have h1 := sl_blk (heap_alloc_new w (.cells cs 5)) hc hl
  have h2 := heap_alloc_new (w.alloc (.cells cs 5)) (.cells #[.slice (some ⟨w.heap.size, 0, none⟩) l.length l.length] 29)
  rw [show (w.alloc (.cells cs 5)).heap.size = w.heap.size + 1 from by simp] at h2
  exact Gr.one h2 (h1.alloc _)
theorem gr_lit2 (w : World) (cs cs2 : Array Value) (l l2 : List UInt8) (hc : cs.toList = cells l) (hc2 : cs2.toList = cells l2) (hl : l.length ≤ maxLen) (hl2 : l2.length ≤ maxLen) :
    Gr (((w.alloc (.cells cs 5)).alloc (.cells cs2 5)).alloc (.cells #[.slice (some ⟨w.heap.size, 0, none⟩) l.length l.length, .slice (some ⟨w.heap.size + 1, 0, none⟩) l2.length l2.length] 29)) (some ⟨w.heap.size + 1 + 1, 0, none⟩) 2 2 [l, l2] := by
  have h1 := sl_blk (heap_alloc_new w (.cells cs 5)) hc hl
  have h2 := sl_blk (heap_alloc_new (w.alloc (.cells cs 5)) (.cells cs2 5)) hc2 hl2
  have h3 := heap_alloc_new ((w.alloc (.cells cs 5)).alloc (.cells cs2 5)) (.cells #[.slice (some ⟨w.heap.size, 0, none⟩) l.length l.length, .slice (some ⟨w.heap.size + 1, 0, none⟩) l2.length l2.length] 29)
  rw [show (w.alloc (.cells cs 5)).heap.size = w.heap.size + 1 from by simp] at h2
  rw [show ((w.alloc (.cells cs 5)).alloc (.cells cs2 5)).heap.size = w.heap.size + 1 + 1 from by simp] at h3
  refine ⟨⟨[.slice (some ⟨w.heap.size, 0, none⟩) l.length l.length, .slice (some ⟨w.heap.size + 1, 0, none⟩) l2.length l2.length], ⟨rfl, Nat.le_refl _, by decide, fun j u hu => ⟨w.heap.size + 1 + 1, 0, rfl, ?_⟩⟩, fun i r hi => ?_⟩, rfl⟩
  · rw [cell_of_row _ _ _ _ _ _ h3, Nat.zero_add]
    simpa using hu
  · rcases i with _ | i
    · simp at hi
      subst hi
      exact ⟨_, _, rfl, (h1.alloc _).alloc _⟩
    · rcases i with _ | i
      · simp at hi
        subst hi
        exact ⟨_, _, rfl, h2.alloc _⟩
      · simp at hi

theorem par_11 : parL 1 [[7, 9]] 1 = [[7, 9]] := by decide +kernel
theorem par_21 : parL 2 [[1], [1]] 1 = [[122]] := by decide +kernel
theorem row_11 : rowC 1 1 = [1] := by decide +kernel

/-- In a law's call that began in w0: a field at F, T of its own, whose tables are made. -/
structure Lw (w0 : World) (F T : Nat) (w : World) : Prop where
  bel : Below w0.heap.size w0 w
  fld : Fld1 w F T
  new : w0.heap.size ≤ T
theorem Lw.later {w0 w w' : World} {F T : Nat} (h : Lw w0 F T w) (hb : Below w.heap.size w w') : Lw w0 F T w' := ⟨h.bel.trans (hb.mono h.bel.size), h.fld.later hb, h.new⟩
theorem Lw.of {w0 w1 w2 : World} {F T : Nat} (hb : Below w0.heap.size w0 w1) (hT : w0.heap.size ≤ T) (hr : Fr (Ft T) w1 w2) (hf : Fld1 w2 F T) : Lw w0 F T w2 := ⟨hb.trans (hr.below hb.size (by rintro k rfl; exact hT)), hf, hT⟩

set_option maxRecDepth 20000 in
set_option maxHeartbeats 1600000 in
theorem codes_any (w : World) : Calls Try.prog 11 #[] w (SaysTrue w) := by
  go_enter Try.func11, Try.ntmps11
  go_wp2_with fail
  refine (new_any _).mono ?_; rintro e w1 ⟨rfl, hf, hb⟩
  obtain ⟨F, hF⟩ : ∃ F, F = w.heap.size + 1 := ⟨_, rfl⟩
  obtain ⟨T, hT⟩ : ∃ T, T = w.heap.size := ⟨_, rfl⟩
  rw [← hF] at hf ⊢
  rw [← hT] at hf
  have HT := Lib.hid (show w.heap.size ≤ T by omega)
  clear hF hT
  go_wp2_with fail
  refine (cnew_at F T 1 1 1 1 rfl rfl (by omega) _ hf).mono ?_; rintro e w2 ⟨C, rfl, hC, hr⟩
  have L2 := Lib.hid (Lw.of hb HT.out hr hC.fld)
  have HC2 := Lib.hid hC
  clear hf hb hC hr
  go_wp2_with fail
  have hb3 : Below w2.heap.size w2 ((w2.alloc (.cells #[.int .u8 7, .int .u8 9] 5)).alloc (.cells #[.slice (some ⟨w2.heap.size, 0, none⟩) 2 2] 29)) := ((Below.refl _ _).alloc (Nat.le_refl _) _).alloc (by simp) _
  refine (encode_any C 1 1 F T (some ⟨w2.heap.size + 1, 0, none⟩) 1 1 [[7, 9]] _ (HC2.out.later hb3) (gr_lit1 w2 #[.int .u8 7, .int .u8 9] [7, 9] rfl (by decide)) (by decide)).mono ?_
  rintro e w4 ⟨hb4, hR⟩
  rw [par_11] at hR
  rcases hR with ⟨hno, _⟩ | ⟨_, g, rfl, hp⟩
  · exact absurd hno (by decide)
  have hb4' := hb3.trans (hb4.mono hb3.size)
  have L4 := Lib.hid (L2.out.later hb4')
  have HC4 := Lib.hid (HC2.out.later hb4')
  have HP4 := Lib.hid hp
  clear hb3 hb4 hb4' hp L2 HC2
  go_wp2_with fail
  refine (cnew_at F T 2 1 2 1 rfl rfl (by omega) _ L4.out.fld.fld).mono ?_; rintro e w5 ⟨D, rfl, hD, hr⟩
  have hb5 := Fr.madeAll L4.out.fld hD.fld hr
  have L5 := Lib.hid (L4.out.later hb5)
  have HC5 := Lib.hid (HC4.out.later hb5)
  have HP5 := Lib.hid (HP4.out.later hb5)
  have HD5 := Lib.hid hD
  clear hD hr hb5 L4 HC4 HP4
  go_wp2_with fail
  have hb6 : Below w5.heap.size w5 (((w5.alloc (.cells #[.int .u8 1] 5)).alloc (.cells #[.int .u8 1] 5)).alloc (.cells #[.slice (some ⟨w5.heap.size, 0, none⟩) 1 1, .slice (some ⟨w5.heap.size + 1, 0, none⟩) 1 1] 29)) := (((Below.refl _ _).alloc (Nat.le_refl _) _).alloc (by simp) _).alloc (by simp; omega) _
  refine (encode_any D 2 1 F T (some ⟨w5.heap.size + 1 + 1, 0, none⟩) 2 2 [[1], [1]] _ (HD5.out.later hb6) (gr_lit2 w5 #[.int .u8 1] #[.int .u8 1] [1] [1] rfl rfl (by decide) (by decide)) (by decide)).mono ?_
  rintro e w7 ⟨hb7, hR⟩
  rw [par_21] at hR
  rcases hR with ⟨hno, _⟩ | ⟨_, g2, rfl, hq⟩
  · exact absurd hno (by decide)
  have hb7' := hb6.trans (hb7.mono hb6.size)
  have L7 := Lib.hid (L5.out.later hb7')
  have HC7 := Lib.hid (HC5.out.later hb7')
  have HP7 := Lib.hid (HP5.out.later hb7')
  have HQ7 := Lib.hid hq
  clear hb6 hb7 hb7' hq L5 HC5 HP5 HD5
  go_wp2_with fail
  refine (cn_any C 1 1 F T _ HC7.out).mono ?_; rintro e w8 ⟨rfl, hb8⟩
  have L8 := Lib.hid (L7.out.later hb8)
  have HC8 := Lib.hid (HC7.out.later hb8)
  have HP8 := Lib.hid (HP7.out.later hb8)
  have HQ8 := Lib.hid (HQ7.out.later hb8)
  clear hb8 L7 HC7 HP7 HQ7
  go_wp2_with fail
  refine (crow_at C 1 1 F T 1 1 rfl (by omega) _ HC8.out).mono ?_; rintro e w9 ⟨Ar, nr, cr, rfl, hsr, hb9⟩
  rw [row_11] at hsr
  have L9 := Lib.hid (L8.out.later hb9)
  have HP9 := HP8.out.later hb9
  have HQ9 := HQ8.out.later hb9
  have k1 := str_of hsr
  rw [show bstr [1] = { data := #[1] } from rfl] at k1
  obtain ⟨b, o, e1, hc⟩ := HP9.at_ (by decide)
  injection e1 with e1; injection e1 with e1 e2
  subst e1; subst e2
  obtain ⟨A1, c1, hc1, hs1⟩ := hc 0 [7, 9] rfl
  have k2 := str_of (show Sl w9 1 A1 2 c1 (cells [7, 9]) from hs1)
  replace hc1 : w9.cell? ⟨g, 0 + 0, none⟩ = some (.slice A1 2 c1) := hc1
  rw [show bstr [7, 9] = { data := #[7, 9] } from rfl] at k2
  obtain ⟨b2, o2, e1, hcq⟩ := HQ9.at_ (by decide)
  injection e1 with e1; injection e1 with e1 e2
  subst e1; subst e2
  obtain ⟨A2, c2, hc2, hs2⟩ := hcq 0 [122] rfl
  replace hc2 : w9.cell? ⟨g2, 0 + 0, none⟩ = some (.slice A2 1 c2) := hc2
  replace hs2 : Sl w9 1 A2 1 c2 (cells [122]) := hs2
  obtain ⟨b3, o3, rfl, hcc⟩ := hs2.at_ (k := 0) (by decide)
  have hc3 := hcc 0 (.int .u8 122) rfl
  rw [Nat.add_zero] at hc1 hc2 hc3
  clear hs1 hs2 hcc hc hcq HP9 HQ9 hsr hb9 L8 HC8 HP8 HQ8
  go_wp2_with fail
  refine (cnew_no F T 255 1 (by decide) (by decide) (by decide) _ L9.out.fld.fld).mono ?_; rintro e w10 ⟨rfl, hf10, hr10⟩
  have L10 := Lib.hid (L9.out.later (Fr.madeAll L9.out.fld hf10 hr10))
  clear hf10 hr10 k1 k2 hc1 hc2 hc3
  go_wp2_with fail
  refine (cnewnil_any 1 1 _).mono ?_; rintro e w11 ⟨rfl, hb11⟩
  have L11 := Lib.hid (L10.out.later hb11)
  clear hb11
  go_wp2_with fail
  go_ret
  exact ⟨rfl, L11.out.bel⟩
end Go.Proofs.Ytgnkgogdkplcoaa

/-
  The statements' own example of layer 7 ('goes') answers true. No condition.
-/
import Derived.Test.YtjacdabhlnfbkaaDpc
import Derived.Test.YtjacdabhlnfbkaaDpd
namespace Go.Proofs.Ytjacdabhlnfbkaa
open Go.RowKit Go.Proofs
set_option linter.unusedVariables false

theorem upd_56 : updL 1 0 [5] [6] [[5]] 1 = [[6]] := by decide +kernel
theorem ok_56 : UpdOk 1 1 ((0 : Nat) : Int) [5] [6] [[5]] := ⟨by decide, rfl, rfl, fun i hi => by
  obtain rfl : i = 0 := by omega
  rfl⟩
theorem off_56 : offL 1 [[5], [6]] 1 = [1] := by decide +kernel
theorem holds_55 : holdsB 1 1 [[5], [5]] = true := by decide +kernel
theorem even_56 : evenB [[5], [6]] ((1 : Nat) + (1 : Nat) : Int) = true := by decide +kernel
theorem lit_upd (w : World) : Sl ((((w.alloc (.cells #[.int .u8 5] 5)).alloc (.cells #[.int .u8 6] 5)).alloc (.cells #[.int .u8 5] 5)).alloc (.cells #[.slice (some ⟨w.heap.size + 1 + 1, 0, none⟩) 1 1] 22)) 1 (some ⟨w.heap.size, 0, none⟩) 1 1 (cells [5]) ∧
    Sl ((((w.alloc (.cells #[.int .u8 5] 5)).alloc (.cells #[.int .u8 6] 5)).alloc (.cells #[.int .u8 5] 5)).alloc (.cells #[.slice (some ⟨w.heap.size + 1 + 1, 0, none⟩) 1 1] 22)) 1 (some ⟨w.heap.size + 1, 0, none⟩) 1 1 (cells [6]) ∧
    Gr ((((w.alloc (.cells #[.int .u8 5] 5)).alloc (.cells #[.int .u8 6] 5)).alloc (.cells #[.int .u8 5] 5)).alloc (.cells #[.slice (some ⟨w.heap.size + 1 + 1, 0, none⟩) 1 1] 22)) (some ⟨w.heap.size + 1 + 1 + 1, 0, none⟩) 1 1 [[5]] ∧
    Below w.heap.size w ((((w.alloc (.cells #[.int .u8 5] 5)).alloc (.cells #[.int .u8 6] 5)).alloc (.cells #[.int .u8 5] 5)).alloc (.cells #[.slice (some ⟨w.heap.size + 1 + 1, 0, none⟩) 1 1] 22)) := by
  have h1 : Sl (w.alloc (.cells #[.int .u8 5] 5)) 1 (some ⟨w.heap.size, 0, none⟩) 1 1 (cells [5]) := sl_blk (l := [5]) (heap_alloc_new w (.cells #[.int .u8 5] 5)) rfl (by decide)
  have e2 := heap_alloc_new (w.alloc (.cells #[.int .u8 5] 5)) (.cells #[.int .u8 6] 5)
  rw [show (w.alloc (.cells #[.int .u8 5] 5)).heap.size = w.heap.size + 1 from by simp] at e2
  have h2 : Sl ((w.alloc (.cells #[.int .u8 5] 5)).alloc (.cells #[.int .u8 6] 5)) 1 (some ⟨w.heap.size + 1, 0, none⟩) 1 1 (cells [6]) := sl_blk (l := [6]) e2 rfl (by decide)
  have h3 := gr_lit1 ((w.alloc (.cells #[.int .u8 5] 5)).alloc (.cells #[.int .u8 6] 5)) #[.int .u8 5] [5] rfl (by decide)
  rw [show ((w.alloc (.cells #[.int .u8 5] 5)).alloc (.cells #[.int .u8 6] 5)).heap.size = w.heap.size + 1 + 1 from by simp] at h3
  exact ⟨((h1.alloc _).alloc _).alloc _, (h2.alloc _).alloc _, h3, ((((Below.refl _ _).alloc (Nat.le_refl _) _).alloc (by simp) _).alloc (by simp; omega) _).alloc (by simp; omega) _⟩

set_option maxRecDepth 20000 in
set_option maxHeartbeats 1600000 in
theorem goes7_any (w : World) : Calls Try.prog 11 #[] w (SaysTrue w) := by
  go_enter Try.func11, Try.ntmps11
  go_wp2_with fail
  refine (new_any _).mono ?_; rintro e w1 ⟨rfl, hf, hb⟩
  obtain ⟨F, hF⟩ : ∃ F, F = w.heap.size + 1 := ⟨_, rfl⟩
  obtain ⟨T, hT⟩ : ∃ T, T = w.heap.size := ⟨_, rfl⟩
  rw [← hF] at hf ⊢
  rw [← hT] at hf
  have HT := Lib.hid (show w.heap.size ≤ T by omega)
  clear hF hT
  go_wp2_with fail
  refine (cnew_at F T 1 1 1 1 rfl rfl (by omega) _ hf).mono ?_; rintro e w2 ⟨C, rfl, hC, hr⟩
  have L2 := Lib.hid (Lw.of hb HT.out hr hC.fld)
  have HC2 := Lib.hid hC
  clear hf hb hC hr
  go_wp2_with fail
  obtain ⟨s1, s2, s3, hb3⟩ := lit_upd w2
  refine (dupdate_yes C 1 1 F T 0 _ 1 1 [5] _ 1 1 [6] _ 1 1 [[5]] _ (HC2.out.later hb3) s1 s2 s3 (by decide) ok_56).mono ?_
  rintro e w4 ⟨⟨A4, c4, rfl, hG⟩, hb4⟩
  rw [upd_56] at hG
  have hb4' := hb3.trans (hb4.mono hb3.size)
  have L4 := Lib.hid (L2.out.later hb4')
  have HC4 := Lib.hid (HC2.out.later hb4')
  have HP4 := Lib.hid hG
  clear s1 s2 s3 hb3 hb4 hb4' hG L2 HC2
  go_wp2_with fail
  have hb5 : Below w4.heap.size w4 (((w4.alloc (.cells #[.int .u8 5] 5)).alloc (.cells #[.int .u8 6] 5)).alloc (.cells #[.slice (some ⟨w4.heap.size, 0, none⟩) 1 1, .slice (some ⟨w4.heap.size + 1, 0, none⟩) 1 1] 22)) := (((Below.refl _ _).alloc (Nat.le_refl _) _).alloc (by simp) _).alloc (by simp; omega) _
  refine (doff_any C 1 1 F T (some ⟨w4.heap.size + 1 + 1, 0, none⟩) 2 2 [[5], [6]] _ (HC4.out.later hb5) (gr_lit2 w4 #[.int .u8 5] #[.int .u8 6] [5] [6] rfl rfl (by decide) (by decide)) (by decide)).mono ?_
  rintro e w6 ⟨hR, hb6⟩
  rcases hR with ⟨hno, _⟩ | ⟨_, A6, q6, c6, rfl, hO⟩
  · exact absurd hno (by decide +kernel)
  rw [off_56] at hO
  have hq : q6 = 1 := by
    have := hO.len
    rw [ncells_length, Nat.mul_one] at this
    exact this.symm
  subst hq
  have hb6' := hb5.trans (hb6.mono hb5.size)
  have L6 := Lib.hid (L4.out.later hb6')
  have HC6 := Lib.hid (HC4.out.later hb6')
  obtain ⟨b4, o4, rfl, hc4⟩ := (HP4.out.later hb6').at_ (by decide)
  obtain ⟨A7, c7, hc7, hs7⟩ := hc4 0 [6] rfl
  have k7 := str_of (show Sl w6 1 A7 1 c7 (cells [6]) from hs7)
  rw [show bstr [6] = { data := #[6] } from rfl] at k7
  replace hc7 : w6.cell? ⟨b4, o4 + 0, none⟩ = some (.slice A7 1 c7) := hc7
  obtain ⟨b6, o6, rfl, hc8⟩ := hO.at_ (k := 0) (by decide)
  have hc9 := hc8 0 (.int .i64 1) rfl
  rw [Nat.add_zero] at hc7 hc9
  clear hb5 hb6 hb6' hc4 hs7 hO hc8 L4 HC4 HP4
  go_wp2_with fail
  clear k7 hc7 hc9
  have hb7 : Below w6.heap.size w6 (((w6.alloc (.cells #[.int .u8 5] 5)).alloc (.cells #[.int .u8 5] 5)).alloc (.cells #[.slice (some ⟨w6.heap.size, 0, none⟩) 1 1, .slice (some ⟨w6.heap.size + 1, 0, none⟩) 1 1] 22)) := (((Below.refl _ _).alloc (Nat.le_refl _) _).alloc (by simp) _).alloc (by simp; omega) _
  refine (dholds_any C 1 1 F T (some ⟨w6.heap.size + 1 + 1, 0, none⟩) 2 2 [[5], [5]] _ (HC6.out.later hb7) (gr_lit2 w6 #[.int .u8 5] #[.int .u8 5] [5] [5] rfl rfl (by decide) (by decide)) (by decide)).mono ?_
  rintro e w8 ⟨he, hb8⟩
  rw [holds_55] at he
  subst he
  have hb8' := hb7.trans (hb8.mono hb7.size)
  have L8 := Lib.hid (L6.out.later hb8')
  clear hb7 hb8 hb8' L6 HC6
  go_wp2_with fail
  refine (dholds_nil _ _).mono ?_; rintro e w9 ⟨rfl, rfl⟩
  go_wp2_with fail
  go_ret
  exact ⟨rfl, L8.out.bel⟩
end Go.Proofs.Ytjacdabhlnfbkaa

/-
  Contracts of package bitmap's search over runs and of Run. Condition: the table reads as the row lists it ('Tz').
-/
import Derived.Test.YthkflghekgbgcaaDoorEbf
import Derived.Laws.EntriesVeiled
namespace Go.Proofs.YthkflghekgbgcaaDoor
open Go.RowKit Go.Proofs
set_option linter.unusedVariables false

theorem RunB.c0 {w : World} {b : Nat} {r : Nat × Nat} (h : RunB w b r) : w.cell? ⟨b, 0, none⟩ = some (.int .i64 (r.1 : Int)) := by rw [cell_of_row _ _ _ _ _ _ h]; rfl
theorem RunB.c1 {w : World} {b : Nat} {r : Nat × Nat} (h : RunB w b r) : w.cell? ⟨b, 1, none⟩ = some (.int .i64 (r.2 : Int)) := by rw [cell_of_row _ _ _ _ _ _ h]; rfl
theorem RunB.free {w : World} {b : Nat} {r : Nat × Nat} (h : RunB w b r) (j : Nat) : w.frozen? ⟨b, j, none⟩ = false := frozen_of_row _ _ _ _ _ h
theorem RunB.later {w w' : World} {b : Nat} {r : Nat × Nat} (h : RunB w b r) (hb : Below w.heap.size w w') : RunB w' b r := (hb.block _ (block_lt h)).trans h
theorem RunB.set {w : World} {b : Nat} {r q : Nat × Nat} (h : RunB w b r) : RunB ((w.setCell ⟨b, 0, none⟩ (.int .i64 (q.1 : Int))).setCell ⟨b, 1, none⟩ (.int .i64 (q.2 : Int))) b q := by
  have e0 := heap_setCell_same w b 0 _ _ (.int .i64 (q.1 : Int)) h
  have e1 := heap_setCell_same _ b 1 _ _ (.int .i64 (q.2 : Int)) e0
  exact e1
theorem runF_le {m p : Nat} {r : Nat × Nat} (h1 : r.1 ≤ 65536) (h2 : r.2 ≤ 65536) (hp : p < 65536) : (runF m r p).1.1 ≤ 65536 ∧ (runF m r p).1.2 ≤ 65536 := by
  unfold runF
  refine ⟨?_, by show p + 1 ≤ 65536; omega⟩
  show (if p = r.2 then r.1 else p) ≤ 65536
  split <;> omega

set_option maxRecDepth 100000 in
set_option maxHeartbeats 1600000 in
theorem searchr_any (bl bm m : Nat) (z : Int) (v : Value) (n : Nat) (f : Nat → Bool) (t : Bool) (w : World) (h : Mp w v n f) (hN : Tz w) (hz2 : z < 9223372036854775808) (hl : Lng w bl bm m) :
    Calls Tryd.prog 33 #[v, .int .i64 z, .bool t, .agg #[.int .i64 0, .int .i64 0], .func (.func 34) #[] #[.pointer (some ⟨bl, 0, none⟩)]] w fun e w' => e = .returned (rv (goesP (runF m) (0, 0) (plc n z.toNat f t))) ∧ Below w.heap.size w w' := by
  have htop := h.top
  have hnx := fun a ha W hW => next_any v n f a t W (h.keep hW) (hN.keep hW) ha
  have hwi := fun i W hW => mwithin_any v n f i W (h.keep hW)
  have hlk := fun W (hW : Below w.heap.size w W) => hl.keep hW
  obtain ⟨a0, ha0⟩ : ∃ a0, a0 = z.toNat := ⟨_, rfl⟩
  have hmx : (z < 0 ∧ a0 = 0) ∨ (¬ z < 0 ∧ z = (a0 : Int)) := by omega
  have hal : a0 < 9223372036854775808 := by omega
  rw [← ha0]
  have Hn := Lib.hid hnx; clear hnx
  have Hi := Lib.hid hwi; clear hwi
  have Hl := Lib.hid hlk; clear hlk hl
  have eg := enters_of Tryd.func34 (by kernel_rfl) rfl
  clear ha0 hN h
  obtain ⟨wb, hwb⟩ : ∃ x, x = (w.alloc (.cells #[.int .i64 0, .int .i64 0] 55)).alloc (.cells #[.int .i64 0, .int .i64 0] 55) := ⟨_, rfl⟩
  have hb0 : Below w.heap.size w (w.alloc (.cells #[.int .i64 0, .int .i64 0] 55)) := (Below.refl _ _).alloc (Nat.le_refl _) _
  have hbb : Below w.heap.size w wb := by rw [hwb]; exact hb0.alloc hb0.size _
  have h8 : RunB wb w.heap.size (0, 0) := by rw [hwb]; exact (Below.heap_alloc _ _ _ (by simp)).trans (heap_alloc_new w _)
  have h10 : RunB wb (w.heap.size + 1) (0, 0) := by
    rw [hwb]
    have := heap_alloc_new (w.alloc (.cells #[.int .i64 0, .int .i64 0] 55)) (.cells #[.int .i64 0, .int .i64 0] 55)
    rw [show (w.alloc (.cells #[.int .i64 0, .int .i64 0] 55)).heap.size = w.heap.size + 1 by simp] at this
    exact this
  have Hbb := Lib.hid hbb
  have H8 := Lib.hid h8
  have H10 := Lib.hid h10
  clear hb0 hbb h8 h10
  rcases hmx with ⟨hz, rfl⟩ | ⟨hz, rfl⟩
  all_goals
    have hzm : ¬ (0 : Int) < 0 := by omega
    go_enter Tryd.func33, Tryd.ntmps33
    go_wp2_with fail
    rw [← hwb]
    clear hwb
    first | refine (Hn.out a0 hal _ Hbb.out).mono ?_ | refine (Hn.out 0 (by decide) _ Hbb.out).mono ?_
    rintro e w1 ⟨r0, rfl, hq0, hw1⟩
    obtain rfl : wb = w1 := hw1.symm
    have Q0 := Lib.hid hq0; clear hq0
    go_wp2_with fail
    go_loopw [11, 12, 13] (fun i _ _ wr => ∃ (a r : Nat) (k : Nat × Nat), i = .int .i64 (r : Int) ∧ a < 9223372036854775808 ∧ k.1 ≤ 65536 ∧ k.2 ≤ 65536 ∧ Nq n f a t r ∧ Below w.heap.size w wr ∧ RunB wr w.heap.size k ∧ RunB wr (w.heap.size + 1) (0, 0) ∧ goesP (runF m) (0, 0) (plc n _ f t) = goesP (runF m) k (plc n a f t)) (fun i _ _ _ => n - (intOf i).toNat)
    case atStart => exact ⟨_, r0, (0, 0), rfl, by omega, by decide, by decide, Q0.out, Hbb.out, H8.out, H10.out, rfl⟩
    case round =>
      obtain ⟨a, r, k, rfl, hal2, hk1, hk2, hq, hbw, h8, h10, he⟩ := hrel
      have Q := Lib.hid hq
      have He := Lib.hid he
      have Hbw := Lib.hid hbw
      have K8 := Lib.hid h8
      have K10 := Lib.hid h10
      have hrl : (r : Int) < 9223372036854775808 := by have := hq.top; omega
      have hi := Hi.out (r : Int) _ hbw
      clear he hq hbw h8 h10
      by_cases hlt : r < n
      · rw [show inB n (r : Int) = true by simp [inB]; omega] at hi
        have hcall := run2_any k bm bl m r (by omega) (by omega) (by omega) wr (Hl.out wr Hbw.out)
        have hcons := Q.out.nx.cons hlt
        have He2 := Lib.hid (He.out.trans (by rw [hcons, goesP]))
        have hle := runF_le (m := m) hk1 hk2 (show r < 65536 by omega)
        obtain ⟨k2, hk2e⟩ : ∃ k2, k2 = (runF m k r).1 := ⟨_, rfl⟩
        obtain ⟨b2, hb2⟩ : ∃ b2, b2 = (runF m k r).2 := ⟨_, rfl⟩
        rw [← hk2e, ← hb2] at hcall He2
        rw [← hk2e] at hle
        have c0 := K8.out.c0
        have c1 := K8.out.c1
        unfold rv at hcall
        clear hb2 hcons hk2e
        cases b2
        · go_wp2_with fail
          refine hi.mono ?_; clear hi; rintro e w2 ⟨rfl, hw2⟩
          obtain rfl : wr = w2 := hw2.symm
          go_wp2_with fail
          refine hcall.mono ?_; clear hcall; rintro e w3 ⟨rfl, hb3⟩
          have J8 := Lib.hid (K8.out.later hb3)
          have J10 := Lib.hid (K10.out.later hb3)
          have Hb3 := Lib.hid (Hbw.out.trans (hb3.mono Hbw.out.size))
          have q0 := J8.out.c0
          have q1 := J8.out.c1
          have y0 := J8.out.free 0
          have y1 := J8.out.free 1
          clear hb3 c0 c1
          have hs8 := block_lt J8.out
          have hs10 := block_lt J10.out
          go_wp2_with fail
          obtain ⟨w5, hw5⟩ : ∃ x, x = (((w3.setCell ⟨w.heap.size, 0, none⟩ (.int .i64 (k2.1 : Int))).setCell ⟨w.heap.size, 1, none⟩ (.int .i64 (k2.2 : Int))).alloc (.cells #[.int .i64 (k2.1 : Int), .int .i64 (k2.2 : Int)] 55)) := ⟨_, rfl⟩
          have hf5 : Fr (fun j => j = w.heap.size) w3 w5 := by rw [hw5]; exact (((Fr.refl (fun j => j = w.heap.size) _).setCell (S := fun j => j = w.heap.size) (p := ⟨w.heap.size, 0, none⟩) (.inr rfl) _).setCell (S := fun j => j = w.heap.size) (p := ⟨w.heap.size, 1, none⟩) (.inr rfl) _).alloc _
          have z8 : RunB w5 w.heap.size k2 := by rw [hw5]; exact (J8.out.set (q := k2)).later ((Below.refl _ _).alloc (Nat.le_refl _) _)
          have z10 : RunB w5 (w.heap.size + 1) (0, 0) := hf5.row_some J10.out (by omega)
          have hb5 : Below w.heap.size w w5 := Hb3.out.trans (hf5.below Hb3.out.size (fun j hj => by have hj : j = w.heap.size := hj; omega))
          rw [← hw5]
          have Z8 := Lib.hid z8
          have Z10 := Lib.hid z10
          have Hb5 := Lib.hid hb5
          clear hf5 z8 z10 hb5 hs8 hs10 hw5 q0 q1 y0 y1
          have hnext := Hn.out (r + 1) (by omega) w5 Hb5.out
          refine hnext.mono ?_; clear hnext; rintro e w6 ⟨r4, rfl, hq4, hw6⟩
          obtain rfl : w5 = w6 := hw6.symm
          have hle4 := hq4.nx.le
          have Q4 := Lib.hid hq4; clear hq4
          go_wp2_with fail
          go_roundw
          case rel => exact ⟨r + 1, r4, k2, rfl, by omega, hle.1, hle.2, Q4.out, Hb5.out, Z8.out, Z10.out, He2.out⟩
          case measure => simp [intOf]; omega
        · go_wp2_with fail
          refine hi.mono ?_; clear hi; rintro e w2 ⟨rfl, hw2⟩
          obtain rfl : wr = w2 := hw2.symm
          go_wp2_with fail
          refine hcall.mono ?_; clear hcall; rintro e w3 ⟨rfl, hb3⟩
          have J8 := Lib.hid (K8.out.later hb3)
          have J10 := Lib.hid (K10.out.later hb3)
          have Hb3 := Lib.hid (Hbw.out.trans (hb3.mono Hbw.out.size))
          have q0 := J8.out.c0
          have q1 := J8.out.c1
          have y0 := J8.out.free 0
          have y1 := J8.out.free 1
          clear hb3 c0 c1
          have hs8 := block_lt J8.out
          have hs10 := block_lt J10.out
          have p0 := J10.out.c0
          have p1 := J10.out.c1
          have v0 := J10.out.free 0
          have v1 := J10.out.free 1
          go_wp2_with fail
          obtain ⟨w5, hw5⟩ : ∃ x, x = ((w3.setCell ⟨w.heap.size, 0, none⟩ (.int .i64 (k2.1 : Int))).setCell ⟨w.heap.size, 1, none⟩ (.int .i64 (k2.2 : Int))) := ⟨_, rfl⟩
          have hf5 : Fr (fun j => j = w.heap.size) w3 w5 := by rw [hw5]; exact (((Fr.refl (fun j => j = w.heap.size) _).setCell (S := fun j => j = w.heap.size) (p := ⟨w.heap.size, 0, none⟩) (.inr rfl) _).setCell (S := fun j => j = w.heap.size) (p := ⟨w.heap.size, 1, none⟩) (.inr rfl) _)
          have z10 : RunB w5 (w.heap.size + 1) (0, 0) := hf5.row_some J10.out (by omega)
          have hb5 : Below w.heap.size w w5 := Hb3.out.trans (hf5.below Hb3.out.size (fun j hj => by have hj : j = w.heap.size := hj; omega))
          rw [← hw5]
          have hb6 := (hb5.setCell (p := ⟨w.heap.size + 1, 0, none⟩) (by show w.heap.size ≤ w.heap.size + 1; omega) (.int .i64 (k2.1 : Int))).setCell (p := ⟨w.heap.size + 1, 1, none⟩) (by show w.heap.size ≤ w.heap.size + 1; omega) (.int .i64 (k2.2 : Int))
          refine bodyPost_ret (results_cell_row Tryd.results33 _ _ (w.heap.size + 1) 55 _ (0, 0) _ rfl ((z10.set (q := k2)).later ((Below.refl _ _).alloc (Nat.le_refl _) _)) Tryd.underlying55 rfl size_run) rfl ?_
          exact ⟨by rw [He2.out]; rfl, hb6.alloc hb6.size _⟩
      · rw [show inB n (r : Int) = false by simp [inB]; omega] at hi
        have hnil := Q.out.nx.nil (by omega)
        have He2 := Lib.hid (He.out.trans (by rw [hnil]))
        have q0 := K8.out.c0
        have q1 := K8.out.c1
        have p0 := K10.out.c0
        have p1 := K10.out.c1
        have y0 := K10.out.free 0
        have y1 := K10.out.free 1
        have hs8 := block_lt K8.out
        have hs10 := block_lt K10.out
        go_wp2_with fail
        refine hi.mono ?_; clear hi; rintro e w2 ⟨rfl, hw2⟩
        obtain rfl : wr = w2 := hw2.symm
        go_wp2_with fail
        refine bodyPost_ret (results_cell_row Tryd.results33 _ _ (w.heap.size + 1) 55 _ (0, 0) _ rfl (K10.out.set (q := k)) Tryd.underlying55 rfl size_run) rfl ?_
        refine ⟨by rw [He2.out]; rfl, ?_⟩
        exact (Hbw.out.setCell (p := ⟨w.heap.size + 1, 0, none⟩) (by show w.heap.size ≤ w.heap.size + 1; omega) _).setCell (p := ⟨w.heap.size + 1, 1, none⟩) (by show w.heap.size ≤ w.heap.size + 1; omega) _

theorem goes_run_le (m : Nat) : ∀ (l : List Nat) (r : Nat × Nat), r.1 ≤ 65536 → r.2 ≤ 65536 → (∀ x ∈ l, x < 65536) → (goesP (runF m) r l).1 ≤ 65536 ∧ (goesP (runF m) r l).2 ≤ 65536
  | [], r, h1, h2, _ => ⟨h1, h2⟩
  | p :: l, r, h1, h2, h => by
    have hh := runF_le (m := m) h1 h2 (h p (by simp))
    rw [goesP]
    split
    · exact hh
    · exact goes_run_le m l _ hh.1 hh.2 fun x hx => h x (List.mem_cons_of_mem _ hx)
set_option maxRecDepth 20000 in
set_option maxHeartbeats 800000 in
theorem run_any (v : Value) (n : Nat) (f : Nat → Bool) (z : Int) (m : Nat) (hm : 1 ≤ m) (hz2 : z < 9223372036854775808) (w : World) (h : Mp w v n f) (hN : Tz w) :
    Calls Tryd.prog 17 #[v, .int .i64 z, .int .i64 (m : Int)] w fun e w' => e = .returned (.int .i64 (runE m (goesP (runF m) (0, 0) (plc n z.toNat f false)))) ∧ Below w.heap.size w w' := by
  have hm1 : ¬ (m : Int) < 1 := by omega
  obtain ⟨wb, hwb⟩ : ∃ x, x = (w.alloc (.cells #[.int .i64 (m : Int)] 3)).alloc (.cells #[.func (.func 32) #[] #[.pointer (some ⟨w.heap.size, 0, none⟩)]] 56) := ⟨_, rfl⟩
  have hb0 : Below w.heap.size w (w.alloc (.cells #[.int .i64 (m : Int)] 3)) := (Below.refl _ _).alloc (Nat.le_refl _) _
  have hbb : Below w.heap.size w wb := by rw [hwb]; exact hb0.alloc hb0.size _
  have hlg : Lng wb (w.heap.size + 1) w.heap.size m := by
    have e : (w.alloc (.cells #[.int .i64 (m : Int)] 3)).heap.size = w.heap.size + 1 := by simp
    refine ⟨?_, ?_⟩
    · rw [hwb]
      exact (World.cell?_alloc_lt _ _ _ (by show w.heap.size < _; rw [e]; omega)).trans (cell_of_one (heap_alloc_new w _))
    · rw [hwb]
      have := cell_of_one (heap_alloc_new (w.alloc (.cells #[.int .i64 (m : Int)] 3)) (.cells #[.func (.func 32) #[] #[.pointer (some ⟨w.heap.size, 0, none⟩)]] 56))
      rw [e] at this
      exact this
  have hh := searchr_any (w.heap.size + 1) w.heap.size m z v n f false wb (h.keep hbb) (hN.keep hbb) hz2 hlg
  have htop := h.top
  have hkl := goes_run_le m (plc n z.toNat f false) (0, 0) (by decide) (by decide) (fun x hx => by have := (plc_mem.1 hx).2.1; omega)
  obtain ⟨k, hk⟩ : ∃ k, k = goesP (runF m) (0, 0) (plc n z.toNat f false) := ⟨_, rfl⟩
  rw [← hk] at hkl
  have Hkl := Lib.hid hkl
  have eg := enters_of Tryd.func32 (by kernel_rfl) rfl
  clear hkl
  rw [← hk] at hh ⊢
  have Hbb := Lib.hid hbb
  have Hlg := Lib.hid hlg
  clear hb0 hbb hlg h hN hk
  go_enter Tryd.func17, Tryd.ntmps17
  go_wp2_with fail
  rw [← hwb]
  clear hwb
  refine hh.mono ?_; clear hh; rintro e w1 ⟨rfl, hb1⟩
  unfold rv
  have hl1 := Hlg.out.keep hb1
  have hf1 := hl1.fn
  have Hl1 := Lib.hid hl1
  have Hb1 := Lib.hid (Hbb.out.trans (hb1.mono Hbb.out.size))
  have hsz1 : w.heap.size + 1 < w1.heap.size := World.block_lt_of_cell? w1 _ hf1
  clear hb1 hl1
  have hba : Below w1.heap.size w1 (w1.alloc (.cells #[.int .i64 (k.1 : Int), .int .i64 (k.2 : Int)] 55)) := (Below.refl _ _).alloc (Nat.le_refl _) _
  have hcall := long12_any k w.heap.size m (by have := Hkl.out.1; omega) (by have := Hkl.out.2; omega) _ (Hl1.out.keep hba).many
  have hx8 : RunB (w1.alloc (.cells #[.int .i64 (k.1 : Int), .int .i64 (k.2 : Int)] 55)) w1.heap.size k := heap_alloc_new w1 _
  obtain ⟨y, hy⟩ : ∃ y, y = decide ((m : Int) ≤ (k.2 : Int) - (k.1 : Int)) := ⟨_, rfl⟩
  rw [← hy] at hcall
  have Hy := Lib.hid hy
  have Hx8 := Lib.hid hx8
  have Hb2 := Lib.hid (Hb1.out.trans (hba.mono Hb1.out.size))
  unfold rv at hcall
  clear hba hx8 hy
  cases y
  · have He := Lib.hid (show runE m k = -1 by rw [runE, if_neg (fun e => by have := Hy.out; rw [decide_eq_true e] at this; cases this)])
    go_wp2_with fail
    refine hcall.mono ?_; clear hcall; rintro e w2 ⟨rfl, hb2⟩
    have Hb3 := Lib.hid (Hb2.out.trans (hb2.mono Hb2.out.size))
    clear hb2
    go_wp2_with fail
    go_ret
    exact ⟨by rw [He.out]; rfl, Hb3.out⟩
  · have He := Lib.hid (show runE m k = (k.1 : Int) by rw [runE, if_pos (of_decide_eq_true Hy.out.symm)])
    go_wp2_with fail
    refine hcall.mono ?_; clear hcall; rintro e w2 ⟨rfl, hb2⟩
    have hx2 := (Hx8.out.later hb2).c0
    have Hb3 := Lib.hid (Hb2.out.trans (hb2.mono Hb2.out.size))
    clear hb2
    go_wp2_with fail
    go_ret
    exact ⟨by rw [He.out]; rfl, Hb3.out⟩
set_option maxRecDepth 20000 in
theorem run_no (v : Value) (z y : Int) (hy : y < 1) (w : World) :
    Calls Tryd.prog 17 #[v, .int .i64 z, .int .i64 y] w fun e w' => e = .returned (.int .i64 (-1)) ∧ Below w.heap.size w w' := by
  have Hbx := Lib.hid (show Below w.heap.size w (w.alloc (.cells #[.int .i64 y] 3)) from (Below.refl _ _).alloc (Nat.le_refl _) _)
  go_enter Tryd.func17, Tryd.ntmps17
  go_wp2_with fail
  go_ret
  exact ⟨rfl, Hbx.out⟩
end Go.Proofs.YthkflghekgbgcaaDoor

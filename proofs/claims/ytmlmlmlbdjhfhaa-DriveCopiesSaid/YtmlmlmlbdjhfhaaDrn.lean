/-
  The contract of package drive's Read: what the last write that waits says, or what is stored, in new memory. No condition but bounds.
-/
import Derived.Test.YtmlmlmlbdjhfhaaDrm
namespace Go.Proofs.Ytmlmlmlbdjhfhaa
open Go.RowKit Go.Proofs Go.Maps
set_option linter.unusedVariables false

theorem same9 (l k : List UInt8) : (cells (pad9 l)).toArray.size = (cells (pad9 k)).toArray.size := by rw [List.size_toArray, List.size_toArray, cells_length, cells_length, pad9_len, pad9_len]
section
variable {w : World} {D Bd cd cc M : Nat} {x : Dv} {Ac : Option Addr} {ds : List (List UInt8 × Bool)}
set_option maxRecDepth 100000
set_option maxHeartbeats 8000000
theorem dvread_any (z : Int) (h1 : -9223372036854775808 ≤ z) (h2 : z < 9223372036854775808) (hwl : x.wait.length ≤ 100000) (h : Rq w D x Bd cd Ac cc M ds) : Calls Try.prog 13 #[.pointer (some ⟨D, 0, none⟩), .int .i64 z] w fun e w' => ∃ A n c, e = .returned (.tuple #[.slice A n c, .int .i64 (x.readX z)]) ∧ NewB w A n c (x.readL z) w' := by
  have hm := dvrefuses_any z h1 h2 h
  by_cases hx : x.gone = false ∧ x.has z
  · rw [Dv.refX_yes hx.1 hx.2] at hm
    rw [Dv.readX_yes hx.1 hx.2, Dv.readL_yes hx.1 hx.2]
    have hz := hx.2
    unfold Dv.has at hz
    obtain ⟨i, rfl⟩ : ∃ i : Nat, z = (i : Int) := ⟨z.toNat, by omega⟩
    have hi : i < x.n := by omega
    obtain ⟨hd, hl⟩ := h.sect hx.1 hi
    have hrg := h.disk.sec_text hd
    simp only at hrg
    rw [Int.toNat_natCast, Dv.look]
    have c0 := h.c0
    have hlk0 := h.lst.look i (by omega)
    have HRq := Lib.hid h
    obtain ⟨b, hb⟩ : ∃ b, b = x.st.getD i [] := ⟨_, rfl⟩
    rw [← hb] at hrg hl ⊢
    have hlt : (i : Int) < (x.n : Int) := by omega
    obtain ⟨n, hxn⟩ : ∃ n, n = x.n := ⟨_, rfl⟩
    rw [← hxn] at c0 hlt
    have hzr := zero9
    have HL := Lib.hid hl
    have hB := Lib.hid (show Below w.heap.size w (w.alloc (.cells (cells (pad9 b)).toArray 66)) from (Below.refl _ _).alloc (Nat.le_refl _) _)
    have c2 := (h.later hB.out).c2
    cases hq : lastI x.wait i with
    | none =>
      rw [hq] at hlk0
      have hlk : (Instr.lookup 60 (.map (some M)) (.int .i64 (i : Int)) true).run Try.prog (w.alloc (.cells (cells (pad9 b)).toArray 66)) = .ok (.tuple #[.int .i64 0, .bool false]) (w.alloc (.cells (cells (pad9 b)).toArray 66)) := by
        have := (HRq.out.later hB.out).lst.look i (by omega)
        rwa [hq] at this
      rw [lastI_none hq]
      show Calls _ _ _ _ fun e w' => ∃ A n c, e = .returned (.tuple #[.slice A n c, .int .i64 0]) ∧ NewB w A n c b w'
      clear hxn hz hx hi hb hd hl hlk0 hwl h h1 h2 hq
      go_enter Try.func13, Try.ntmps13
      go_wp2_with fail
      refine hm.mono ?_; rintro e w1 ⟨rfl, rfl⟩
      go_wp2_with (first
        | (refine at_dst (d := 23) ?_; refine wpList_load_mid (op := ⟨some 23, _, _, _, _, _⟩) rfl 66 (.tmp 22) rfl Bd (i * 65) rfl (cells (pad9 b)) _ hrg Try.underlying66 rfl (size9l b) ?_)
        | (refine at_none ?_; refine wpList_store_row (o := ⟨none, _, _, _, _, _⟩) rfl 66 (.tmp 7) (.tmp 23) rfl w1.heap.size _ rfl rfl 66 nul9 (heap_alloc_last _ _) (size9 b) (old9 b) (one9 b) ?_; rw [World.setRow_alloc_new]))
      go_ret2
      exact ⟨_, _, _, rfl, new9 _ HL.out⟩
    | some j =>
      rw [hq] at hlk0
      obtain ⟨b2, hj, hb2⟩ := lastI_some hq
      rw [hb2]
      show Calls _ _ _ _ fun e w' => ∃ A n c, e = .returned (.tuple #[.slice A n c, .int .i64 0]) ∧ NewB w A n c b2 w'
      have hlk : (Instr.lookup 60 (.map (some M)) (.int .i64 (i : Int)) true).run Try.prog (w.alloc (.cells (cells (pad9 b)).toArray 66)) = .ok (.tuple #[.int .i64 (j : Int), .bool true]) (w.alloc (.cells (cells (pad9 b)).toArray 66)) := by
        have := (HRq.out.later hB.out).lst.look i (by omega)
        rwa [hq] at this
      have hjl : j < x.wait.length := (List.getElem?_eq_some_iff.1 hj).1
      have HL2 := Lib.hid (h.wlen hj)
      simp only at HL2
      rcases (h.later hB.out).cch with ⟨h0, _⟩ | ⟨Bc, rfl, hc⟩
      · rw [h0] at hjl; cases hjl
      have hrg2 := hc.wr_text hj
      simp only at hrg2
      have c1 := (h.later hB.out).c1
      have c0' := h.c0
      have hjt : (j : Int) < (x.wait.length : Int) := by omega
      obtain ⟨m, hm'⟩ : ∃ m, m = x.wait.length := ⟨_, rfl⟩
      rw [← hm'] at c1 hjt
      clear hxn hz hx hi hb hd hl hlk0 hwl h h1 h2 hq hb2 hj hjl hc hm' c0'
      go_enter Try.func13, Try.ntmps13
      go_wp2_with fail
      refine hm.mono ?_; rintro e w1 ⟨rfl, rfl⟩
      go_wp2_with (first
        | (refine at_dst (d := 23) ?_; refine wpList_load_mid (op := ⟨some 23, _, _, _, _, _⟩) rfl 66 (.tmp 22) rfl Bd (i * 65) rfl (cells (pad9 b)) _ hrg Try.underlying66 rfl (size9l b) ?_)
        | (refine at_dst (d := 41) ?_; refine wpList_load_mid (op := ⟨some 41, _, _, _, _, _⟩) rfl 66 (.tmp 40) rfl Bc (j * 65 + 1) rfl (cells (pad9 b2)) _ hrg2 Try.underlying66 rfl (size9l b2) ?_)
        | (refine at_none ?_; refine wpList_store_row (o := ⟨none, _, _, _, _, _⟩) rfl 66 (.tmp 7) (.tmp 23) rfl w1.heap.size _ rfl rfl 66 nul9 (heap_alloc_last _ _) (size9 b) (old9 b) (one9 b) ?_; rw [World.setRow_alloc_new])
        | (refine at_none ?_; refine wpList_store_row (o := ⟨none, _, _, _, _, _⟩) rfl 66 (.tmp 7) (.tmp 41) rfl w1.heap.size _ rfl rfl 66 (cells (pad9 b)).toArray (heap_alloc_last _ _) (size9 b2) (same9 b b2) (one9 b2) ?_; rw [World.setRow_alloc_new]))
      go_ret2
      exact ⟨_, _, _, rfl, new9 _ HL2.out⟩
  · have e1 := Dv.refX_no hx
    have e2 : x.readL z = [] := by
      rw [Dv.readL]
      split
      · rfl
      · rename_i hg
        rw [if_neg (fun hh => hx ⟨by simpa using hg, hh⟩)]
    have e3 : x.readX z = x.refX z := rfl
    rw [e2, e3]
    obtain ⟨r, hr⟩ : ∃ r, r = x.refX z := ⟨_, rfl⟩
    rw [← hr] at e1 hm ⊢
    clear hr e2 e3
    go_enter Try.func13, Try.ntmps13
    go_wp2_with fail
    refine hm.mono ?_; rintro e w1 ⟨rfl, rfl⟩
    go_wp2_with fail
    go_ret2
    exact ⟨_, _, _, rfl, Sl.nil w1 1 0 (by decide), Below.refl _ _, fun _ _ h => absurd h (by decide)⟩
end
end Go.Proofs.Ytmlmlmlbdjhfhaa

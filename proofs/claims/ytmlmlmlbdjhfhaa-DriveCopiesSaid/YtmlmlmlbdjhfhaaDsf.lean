/-
  The document's drive (layer 9): contracts of its Read and Rot. No condition but bounds.
-/
import Derived.Test.YtmlmlmlbdjhfhaaDse
namespace Go.Proofs.Ytmlmlmlbdjhfhaa
open Go.RowKit Go.Proofs
set_option linter.unusedVariables false

theorem lastW_append (a : List (Nat × List UInt8)) : ∀ (l : List (Nat × List UInt8)) (i : Nat), Dv.lastW (l ++ a) i = (match Dv.lastW a i with | some b => some b | none => Dv.lastW l i)
  | [], i => by
    show Dv.lastW a i = _
    cases Dv.lastW a i <;> rfl
  | p :: l, i => by
    show (match Dv.lastW (l ++ a) i with | some b => some b | none => if p.1 = i then some p.2 else none) = (match Dv.lastW a i with | some b => some b | none => (match Dv.lastW l i with | some b => some b | none => if p.1 = i then some p.2 else none))
    rw [lastW_append a l i]
    cases Dv.lastW a i <;> rfl
section
variable {w w' : World} {S T : Nat → Prop} {X k : Nat} {x y : Dv} {AL AW : Option Addr} {cL cW : Nat} {ls ws : List Em}
/-- What is waiting, from a number on. -/
theorem Rg.drop (h : Rg w S X k x AL cL ls AW cW ws) {j : Nat} {m : Em} (hm : ws[j]? = some m) : x.wait.drop j = (m.ev.at_, m.ev.b) :: x.wait.drop (j + 1) := by
  have hw : x.wait[j]? = some (m.ev.at_, m.ev.b) := by
    rw [h.rel.wait, List.map_map, List.getElem?_map, hm]
    rfl
  have hl := (List.getElem?_eq_some_iff.1 hw)
  rw [List.drop_eq_getElem_cons hl.1, hl.2]
theorem lastW_at {l : List (Nat × List UInt8)} {i : Nat} {b : List UInt8} {j : Nat} (h : l.drop j = (i, b) :: l.drop (j + 1)) (hn : Dv.lastW (l.drop (j + 1)) i = none) : Dv.lastW l i = some b := by
  rw [← List.take_append_drop j l, lastW_append, h]
  show (match (match Dv.lastW (l.drop (j + 1)) i with | some b => some b | none => if i = i then some b else none) with | some b => some b | none => _) = _
  rw [hn, if_pos rfl]
theorem lastW_not {l : List (Nat × List UInt8)} {i a : Nat} {b : List UInt8} {j : Nat} (h : l.drop j = (a, b) :: l.drop (j + 1)) (hn : Dv.lastW (l.drop (j + 1)) i = none) (ha : a ≠ i) : Dv.lastW (l.drop j) i = none := by
  rw [h]
  show (match Dv.lastW (l.drop (j + 1)) i with | some b => some b | none => if a = i then some b else none) = _
  rw [hn, if_neg ha]
/-- What the document's Read answers. -/
def RetRd9 (w : World) (x : Dv) (z : Int) (e : Ending) (w' : World) : Prop := ∃ A n c, e = .returned (.tuple #[.slice A n c, .int .i64 (x.readX z)]) ∧ Sl w' 1 A n c (cells (x.readL z)) ∧ Below w.heap.size w w'
set_option maxRecDepth 100000
set_option maxHeartbeats 4000000
theorem rfread_any (z : Int) (h1 : -9223372036854775808 ≤ z) (h2 : z < 9223372036854775808) (hk : k ≤ 100000) (h : Rg w S X k x AL cL ls AW cW ws) : Calls Try.prog 41 #[.pointer (some ⟨X, 0, none⟩), .int .i64 z] w (RetRd9 w x z) := by
  have c3 := h.c3
  have hhas := rfhas_any z h1 h2 h
  have hstd := rfstored_any z h1 h2 hk h
  unfold RetRd9
  cases hg : x.gone
  · rw [hg] at c3
    by_cases hx : x.has z
    · rw [decide_eq_true hx] at hhas
      have e1 : x.storedL z = x.st.getD z.toNat [] := by rw [Dv.storedL, if_pos ⟨hg, hx⟩]
      rw [Dv.readX_yes hg hx, Dv.readL_yes hg hx, Dv.look]
      rw [e1] at hstd
      have hz := hx
      unfold Dv.has at hz
      obtain ⟨P, rfl⟩ : ∃ i : Nat, z = (i : Int) := ⟨z.toNat, by omega⟩
      rw [Int.toNat_natCast] at hstd ⊢
      obtain ⟨sb, hsb⟩ : ∃ sb, sb = x.st.getD P [] := ⟨_, rfl⟩
      rw [← hsb] at hstd ⊢
      have hll := h.len
      have c2 := h.c2
      obtain ⟨nw, hnw⟩ : ∃ nw, nw = ws.length := ⟨_, rfl⟩
      rw [← hnw] at c2 hll
      have hwl : x.wait.length = nw := by rw [h.rel.wait, List.length_map, List.length_map, hnw]
      have HN := Lib.hid hnw
      have HG := Lib.hid h
      have HW := Lib.hid hwl
      clear hnw h hx hz hsb hwl h1 h2 e1
      go_enter Try.func41, Try.ntmps41
      go_wp2_with fail
      refine hhas.mono ?_; rintro e w1 ⟨rfl, hw1⟩
      obtain rfl : w = w1 := hw1.symm
      clear hhas
      go_wp2_with fail
      go_loopw [6] (fun i wr => ∃ j : Nat, j ≤ nw ∧ i = .int .i64 ((j : Int) - 1) ∧ Dv.lastW (x.wait.drop j) P = none ∧ wr = w) (fun i _ => (intOf i + 1).toNat)
      case atStart =>
        refine ⟨nw, by omega, ?_, by rw [List.drop_of_length_le (by rw [HW.out]; exact Nat.le_refl _)]; rfl, rfl⟩
        first | rfl | go_num | simp
      case round =>
        obtain ⟨j, hj, rfl, hnone, rfl⟩ := hrel
        have Hnone := Lib.hid hnone
        clear hnone
        by_cases hj0 : j = 0
        · subst hj0
          have hlast : Dv.lastW x.wait P = none := Hnone.out
          rw [show ((0 : Nat) : Int) - 1 = -1 from rfl]
          have HL := Lib.hid hlast
          clear hlast
          go_wp2_with fail
          refine hstd.mono ?_; clear hstd; rintro e w2 ⟨A, n, c, rfl, hs, hb⟩
          have HS := Lib.hid hs
          have HB := Lib.hid hb
          clear hs hb
          go_wp2_with fail
          go_ret2
          refine ⟨A, n, c, rfl, ?_, HB.out⟩
          rw [HL.out]
          exact HS.out
        · obtain ⟨i, rfl⟩ : ∃ i, j = i + 1 := ⟨j - 1, by omega⟩
          rw [show ((i + 1 : Nat) : Int) - 1 = (i : Int) from by omega]
          have hii : (0 : Int) ≤ (i : Int) := by omega
          have hin : (i : Int) < (nw : Int) := by omega
          obtain ⟨m, hm⟩ : ∃ m, ws[i]? = some m := ⟨_, List.getElem?_eq_getElem (by rw [← HN.out]; omega)⟩
          have Hdrop := Lib.hid (HG.out.drop hm)
          have Hmb := Lib.hid ((HG.out.ew.b m (List.mem_of_getElem? hm)).1)
          obtain ⟨g, rfl, e0, e1, e2, e3, -⟩ := HG.out.ew.cell hm
          obtain ⟨ev, A, ce⟩ := m
          obtain ⟨at_, eb, off, mask⟩ := ev
          simp only at e0 e1 e2 e3
          clear hm
          by_cases hz : at_ = P
          · have hzz : ((at_ : Int) == (P : Int)) = true := by simp; omega
            have Hz := Lib.hid hz
            clear hz
            go_wp2_with fail
            go_ret2
            refine ⟨A, eb.length, ce, rfl, ?_, Below.refl _ _⟩
            have hd := Hdrop.out
            rw [Hz.out] at hd
            rw [lastW_at hd Hnone.out]
            exact Hmb.out.sl
          · have hzz : ((at_ : Int) == (P : Int)) = false := by simp; omega
            have Hz := Lib.hid hz
            clear hz
            go_wp2_with fail
            go_roundw
            case rel => exact ⟨i, by omega, by go_num, lastW_not Hdrop.out Hnone.out Hz.out, by trivial⟩
            case measure => first | (simp [intOf]; omega) | omega | (simp [intOf])
    · rw [decide_eq_false hx] at hhas
      have e1 : x.readX z = 2 := by rw [Dv.readX, if_neg (by rw [hg]; decide), if_neg hx]
      have e2 : x.readL z = [] := by rw [Dv.readL, if_neg (by rw [hg]; decide), if_neg hx]
      rw [e1, e2]
      clear hx hstd e1 e2
      go_enter Try.func41, Try.ntmps41
      go_wp2_with fail
      refine hhas.mono ?_; rintro e w1 ⟨rfl, hw1⟩
      obtain rfl : w = w1 := hw1.symm
      go_wp2_with fail
      go_ret2
      exact ⟨_, _, _, rfl, Sl.nil w 1 0 (by decide), Below.refl _ _⟩
  · rw [hg] at c3
    have e1 : x.readX z = 90 := by rw [Dv.readX, if_pos hg]
    have e2 : x.readL z = [] := by rw [Dv.readL, if_pos hg]
    rw [e1, e2]
    clear hhas hstd e1 e2
    go_enter Try.func41, Try.ntmps41
    go_wp2_with fail
    go_ret2
    exact ⟨_, _, _, rfl, Sl.nil w 1 0 (by decide), Below.refl _ _⟩
end
end Go.Proofs.Ytmlmlmlbdjhfhaa

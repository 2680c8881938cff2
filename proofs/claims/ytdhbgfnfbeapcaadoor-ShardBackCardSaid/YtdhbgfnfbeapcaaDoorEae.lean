/-
  Package num's Put, told in full (what it answers may be written, and has no room behind its end); a variable that holds a text of the call's own. Condition: slices shorter than 2^47 less 8.
-/
import Derived.Test.YtdhbgfnfbeapcaaDoorEad
namespace Go.Proofs.YtdhbgfnfbeapcaaDoor
open Go.RowKit Go.Proofs
set_option linter.unusedVariables false

set_option maxHeartbeats 800000 in
theorem put_mine (A : Option Addr) (n c : Nat) (l : List UInt8) (m : Nat) (x : Nat) (w : World) (h : Sl w 1 A n c (cells l)) (h47 : n ≤ 140737488355320) (hm1 : 1 ≤ m) (hm8 : m ≤ 8) (hx : x < 2 ^ 64) :
    Calls Tryd.prog 26 #[.slice A n c, .int .i64 (m : Int), .int .u64 (x : Int)] w fun e w' => ∃ A', e = .returned (.slice A' (n + m) (n + m)) ∧ Sl w' 1 A' (n + m) (n + m) (cells (l ++ le m x)) ∧ Mine w' w.heap.size 5 A' (n + m) (cells (l ++ le m x)) ∧ Below w.heap.size w w' := by
  go_enter Tryd.func26, Tryd.ntmps26
  go_wp2_with fail
  refine (nfits_yes (m : Int) (by omega) (by omega) _).mono ?_; rintro e w' ⟨rfl, rfl⟩
  go_wp2_with fail
  refine (cut_any A n c h.cap h.top _).mono ?_; rintro e w' ⟨rfl, rfl⟩
  go_wp2_with fail
  go_loopw [7, 18] (fun v i wr => ∃ (k : Nat) (A' : Option Addr) (n' c' : Nat), k ≤ m ∧ i = .int .i64 (k : Int) ∧ v = .slice A' n' c' ∧ Own wr w.heap.size 5 1 A' n' c' (cells (l ++ le k x)) ∧ Below w.heap.size w wr ∧ (0 < k → wr.ownsRow w.heap.size 5 1 (.slice A' n' c') n' (cells (l ++ le k x)))) (fun _ i _ => m - (intOf i).toNat)
  case atStart => exact ⟨0, A, n, n, by omega, rfl, rfl, by simpa [le] using Own.full (h.recap (Nat.le_refl _) h.lim), Below.refl _ _, fun h => absurd h (by omega)⟩
  case round =>
    obtain ⟨k, A', n', c', hk, rfl, rfl, ho, hb, hm⟩ := hrel
    have Hm := Lib.hid hm; clear hm
    have hlen := ho.sl.len
    rw [cells_length, List.length_append, le_length] at hlen
    have hl := h.len
    rw [cells_length] at hl
    have hnn : n' = n + k := by omega
    by_cases hlt : k < m
    · have hb8 := le_byte_at x k
      have Hb := Lib.hid hb8; clear hb8
      have Hl := Lib.hid hlen; clear hlen
      have Hl2 := Lib.hid hl; clear hl
      have Hnn := Lib.hid hnn; clear hnn
      go_wp2_with (at_builtin; refine wpList_append_bm (B := w.heap.size) rfl (.tmp 21) (.tmp 27) rfl rfl (ho.alloc _) ?c1 (some ⟨wr.heap.size, 0, none⟩) 1 1 [UInt8.ofNat (x / 256 ^ k)] rfl (Sl.one _ _ _ _ Hb.out) ?c3 ?c4)
      case c1 => have := hb.size; simp; omega
      case c3 => have := Hl.out; have := Hl2.out; omega
      intro A2 c2 w2 ho2 hb2 hm2
      have Hm2 := Lib.hid hm2; clear hm2
      go_wp2_with fail
      go_roundw
      case rel => exact ⟨k + 1, A2, n' + 1, c2, by omega, by go_num, rfl, by simpa [le, cells_append, List.append_assoc] using ho2, (hb.alloc hb.size _).trans hb2, fun _ => by simpa [le, cells_append, List.append_assoc] using Hm2.out⟩
      case measure => simp [intOf]; omega
    · clear hlen hl
      have Hnn := Lib.hid hnn; clear hnn
      go_wp2_with fail
      refine (cut_any A' n' c' ho.sl.cap ho.sl.top _).mono ?_; rintro e w' ⟨rfl, rfl⟩
      go_wp2_with fail
      go_ret
      obtain rfl : k = m := by omega
      obtain rfl := Hnn.out
      exact ⟨A', rfl, ho.sl.recap (Nat.le_refl _) ho.sl.lim, Mine.of_own (Hm.out (by omega)), hb⟩

/-- A variable, at block b1, that holds a text of the call's own (f: with no room behind its end); at block b2 lies a pointer to it. -/
structure Pz (w : World) (b1 b2 : Nat) (f : Bool) (l : List UInt8) : Prop where
  p : w.heap[b2]? = some (.cells #[.pointer (some ⟨b1, 0, none⟩)] 59 (0, 0))
  ne : b2 ≠ b1
  v : ∃ A c, w.heap[b1]? = some (.cells #[.slice A l.length c] 27 (0, 0)) ∧ Sl w 1 A l.length c (cells l) ∧ Mine w (b1 + 1) 5 A l.length (cells l) ∧ (f = true → c = l.length)
section
variable {w w' : World} {b1 b2 : Nat} {f : Bool} {l : List UInt8}
theorem Pz.pc (h : Pz w b1 b2 f l) : w.cell? ⟨b2, 0, none⟩ = some (.pointer (some ⟨b1, 0, none⟩)) := by rw [cell_of_row _ _ _ _ _ _ h.p]; rfl
theorem Pz.later (h : Pz w b1 b2 f l) (hb : Below w.heap.size w w') : Pz w' b1 b2 f l := by
  obtain ⟨A, c, h1, h2, h3, h4⟩ := h.v
  exact ⟨(hb.block _ (block_lt h.p)).trans h.p, h.ne, A, c, (hb.block _ (block_lt h1)).trans h1, h2.below hb (Nat.le_refl _), h3.later hb, h4⟩
theorem Pz.lt (h : Pz w b1 b2 f l) : b1 < w.heap.size := by
  obtain ⟨A, c, h1, _⟩ := h.v
  exact block_lt h1
theorem Pz.lt2 (h : Pz w b1 b2 f l) : b2 < w.heap.size := block_lt h.p
/-- The variable is set. -/
theorem Pz.set {k : List UInt8} {A : Option Addr} {n c : Nat} {w0 : World} (h : Pz w0 b1 b2 f l) (hb : Below w0.heap.size w0 w) (hs : Sl w 1 A n c (cells k)) (hn : n = k.length) (hm : Mine w (b1 + 1) 5 A n (cells k)) {g : Bool} (hg : g = true → c = n) : Pz (w.setCell ⟨b1, 0, none⟩ (.slice A n c)) b1 b2 g k ∧ Fr (fun b => b = b1) w0 (w.setCell ⟨b1, 0, none⟩ (.slice A n c)) := by
  subst hn
  have h' := h.later hb
  have hF : Fr (fun b => b = b1) w (w.setCell ⟨b1, 0, none⟩ (.slice A k.length c)) := (Fr.refl (fun b => b = b1) _).setCell (p := ⟨b1, 0, none⟩) (.inr rfl) _
  have hlt : ∀ b, b = b1 → b < b1 + 1 := fun b hb => by omega
  obtain ⟨A0, c0, h1, _⟩ := h'.v
  exact ⟨⟨hF.row_some h'.p h'.ne, h'.ne, A, c, heap_setCell_same _ b1 0 _ _ _ h1, hm.slFr hs hF hlt, hm.fr hF hlt, hg⟩, (Fr.of_below hb).trans hF⟩
end
end Go.Proofs.YtdhbgfnfbeapcaaDoor

/-
  Contracts of package num's appendVar and PutVar and of the document's answer PutVar. Condition: slices shorter than 2^47 less 20.
-/
import Derived.Test.YtpijfghklgmefaaDoorKa
namespace Go.Proofs.YtpijfghklgmefaaDoor
open Go.RowKit
set_option linter.unusedVariables false

/-- What a call answers that appends to bytes: a slice to which may be appended again; below block B nothing has turned. -/
def RetOwn (B : Nat) (w : World) (l : List UInt8) (e : Ending) (w' : World) : Prop := ∃ A n c, e = .returned (.slice A n c) ∧ Own w' B 5 1 A n c (cells l) ∧ Below B w w'

set_option maxHeartbeats 400000 in
set_option maxRecDepth 20000 in
theorem appendVar_any (A : Option Addr) (n c B : Nat) (l : List UInt8) (x : Nat) (w : World) (h : Own w B 5 1 A n c (cells l)) (hB : B ≤ w.heap.size) (h47 : n ≤ 140737488355300) (hx : x < 2 ^ 64) :
    Calls Tryd.prog 45 #[.slice A n c, .int .u64 (x : Int)] w (RetOwn B w (l ++ venc 9 x)) := by
  have hln := h.sl.len
  rw [cells_length, Nat.mul_one] at hln
  have Hln := Lib.hid hln; clear hln
  go_enter Tryd.func45, Tryd.ntmps45
  go_wp2_with fail
  go_loopw [0, 1] (fun v i wr => ∃ (f y : Nat) (p : List UInt8) (A' : Option Addr) (n' c' : Nat), p ++ venc f y = venc 9 x ∧ p.length + f = 9 ∧ y < 128 ^ (f + 1) ∧ y < 2 ^ 64 ∧ i = .int .u64 (y : Int) ∧ v = .slice A' n' c' ∧ Own wr B 5 1 A' n' c' (cells (l ++ p)) ∧ Below B w wr) (fun _ i _ => (intOf i).toNat)
  case atStart => exact ⟨9, x, [], A, n, c, rfl, rfl, by omega, hx, rfl, rfl, by simpa using h, Below.refl _ _⟩
  case round =>
    obtain ⟨f, y, p, A', n', c', hp, hpf, hy, hy64, rfl, rfl, ho, hb⟩ := hrel
    have hlen := ho.sl.len
    rw [cells_length, List.length_append, Hln.out, Nat.mul_one] at hlen
    have Hp := Lib.hid hp; clear hp
    have Hpf := Lib.hid hpf; clear hpf
    have Hn := Lib.hid hlen; clear hlen
    have Hy := Lib.hid hy; clear hy
    by_cases hlt : y < 128
    · have hge : ¬ (y : Int) ≥ 128 := by omega
      have Hb : Hid ((y : Int) = ((UInt8.ofNat y).toNat : Int)) := Lib.hid (by rw [UInt8.toNat_ofNat']; omega)
      go_wp2_with (at_builtin; refine wpList_append_b (B := B) rfl (.tmp 16) (.tmp 19) rfl rfl (ho.alloc _) ?c1 (some ⟨wr.heap.size, 0, none⟩) 1 1 [UInt8.ofNat y] rfl (Sl.one _ _ _ _ Hb.out) ?c3 ?c4)
      case c1 => have := hb.size; simp; omega
      case c3 => have := Hn.out; have := Hpf.out; omega
      intro A2 c2 w2 ho2 hb2
      go_wp2_with fail
      go_ret
      have h1 := hb.size
      refine ⟨A2, n' + 1, c2, rfl, ?_, (hb.alloc (by omega) _).trans hb2⟩
      rw [← Hp.out, venc_small f y hlt, ← List.append_assoc, cells_append (l ++ p)]
      exact ho2
    · have hge : (y : Int) ≥ 128 := by omega
      obtain ⟨q, hq⟩ : ∃ q, q = UInt8.ofNat (y % 128 + 128) := ⟨_, rfl⟩
      have Hb : Hid ((y : Int) % 128 + 128 = (q.toNat : Int)) := Lib.hid (by rw [hq, UInt8.toNat_ofNat']; omega)
      have Hq := Lib.hid hq; clear hq
      go_wp2_with (at_builtin; refine wpList_append_b (B := B) rfl (.tmp 7) (.tmp 12) rfl rfl (ho.alloc _) ?d1 (some ⟨wr.heap.size, 0, none⟩) 1 1 [q] rfl (Sl.one _ _ _ _ Hb.out) ?d3 ?d4)
      case d1 => have := hb.size; simp; omega
      case d3 => have := Hn.out; have := Hpf.out; omega
      intro A2 c2 w2 ho2 hb2
      go_wp2_with fail
      go_roundw
      case rel =>
        have h1 := hb.size
        obtain ⟨f, rfl⟩ : ∃ g, f = g + 1 := by
          rcases f with _ | g
          · have := Hy.out
            omega
          · exact ⟨g, rfl⟩
        refine ⟨f, y / 128, p ++ [q], A2, n' + 1, c2, ?_, ?_, ?_, by omega, by go_num, rfl, ?_, (hb.alloc (by omega) _).trans hb2⟩
        · rw [← Hp.out, venc_more f y hlt, List.append_assoc, Hq.out]
          rfl
        · have := Hpf.out
          simp
          omega
        · have := Hy.out
          rw [Nat.pow_succ] at this
          exact Nat.div_lt_of_lt_mul (by rw [Nat.mul_comm]; exact this)
        · rw [← List.append_assoc, cells_append (l ++ p)]
          exact ho2
      case measure => simp [intOf]; omega

set_option maxHeartbeats 400000 in
theorem putVar_any (A : Option Addr) (n c : Nat) (l : List UInt8) (x : Nat) (w : World) (h : Sl w 1 A n c (cells l)) (h47 : n ≤ 140737488355300) (hx : x < 2 ^ 64) :
    Calls Tryd.prog 20 #[.slice A n c, .int .u64 (x : Int)] w (RetBytes w.heap.size w (l ++ venc 9 x)) := by
  go_enter Tryd.func20, Tryd.ntmps20
  go_wp2_with fail
  refine (cut_any A n c h.cap h.top _).mono ?_; rintro e w' ⟨rfl, rfl⟩
  go_wp2_with fail
  refine (appendVar_any A n n w.heap.size l x _ (Own.full (h.recap (Nat.le_refl _) h.lim)) (Nat.le_refl _) h47 hx).mono ?_; rintro e w1 ⟨A1, n1, c1, rfl, h1, hb⟩
  go_wp2_with fail
  refine (cut_any A1 n1 c1 h1.sl.cap h1.sl.top _).mono ?_; rintro e w2 ⟨rfl, rfl⟩
  go_wp2_with fail
  go_ret
  exact ⟨A1, n1, n1, rfl, h1.sl.recap (Nat.le_refl _) h1.sl.lim, hb⟩

end Go.Proofs.YtpijfghklgmefaaDoor

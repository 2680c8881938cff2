/-
  Plain mathematics of numbers as bytes: bytes the lowest first ('le', 'leVal'). No program, no condition.
  Contracts of package num's helpers: fits, inside, cut, and of bytes.Clone. No condition but that slices read as bytes.
  Contracts of package num's Put and Get. Condition: slices shorter than 2^47 less 8.
  Contracts of package num's Get and of the document's answers Get, Same, Put, joined.
  Contracts of the document's answer Get.
-/
import Derived.Laws.BitsAllLaws
import Derived.Laws.Shifts
import Derived.Test.YtpijfghklgmefaaDoorProg
import Derived.Test.YtpijfghklgmefaaDoorGa
import Derived.Deep.QuietTactic
import Derived.BigQuiet
namespace Go.Proofs.YtpijfghklgmefaaDoor

/-- The lowest k bytes of x, the lowest first. -/
def le : Nat → Nat → List UInt8
  | 0, _ => []
  | k + 1, x => le k x ++ [UInt8.ofNat (x / 256 ^ k)]
theorem le_length : ∀ k x, (le k x).length = k
  | 0, _ => rfl
  | k + 1, x => by simp [le, le_length k x]

/-- The number of bytes, the lowest first. -/
def leVal : List UInt8 → Nat
  | [] => 0
  | u :: r => u.toNat + 256 * leVal r

theorem leVal_append : ∀ p q, leVal (p ++ q) = leVal p + 256 ^ p.length * leVal q
  | [], q => by simp [leVal]
  | u :: r, q => by
    simp only [List.cons_append, leVal, leVal_append r q, List.length_cons, Nat.pow_succ]
    rw [Nat.mul_add, ← Nat.mul_assoc, Nat.mul_comm 256 (256 ^ r.length)]
    omega
theorem leVal_lt : ∀ p, leVal p < 256 ^ p.length
  | [] => by simp [leVal]
  | u :: r => by
    have h := leVal_lt r
    have hu := u.toNat_lt
    simp only [leVal, List.length_cons, Nat.pow_succ]
    omega
theorem leVal_le : ∀ k x, leVal (le k x) = x % 256 ^ k
  | 0, x => by simp [le, leVal, Nat.mod_one]
  | k + 1, x => by
    rw [le, leVal_append, leVal_le k x, le_length, Nat.pow_succ, Nat.mod_mul]
    simp [leVal, UInt8.toNat_ofNat']

theorem le_byte_at (x k : Nat) : (x : Int) / 2 ^ (8 * k) % 256 = ((UInt8.ofNat (x / 256 ^ k)).toNat : Int) := by
  rw [UInt8.toNat_ofNat', show (256 : Nat) = 2 ^ 8 from rfl, ← Nat.pow_mul]
  simp

theorem byte_div (x k : Nat) : (((x / 256 ^ k : Nat) : Int) % 256) = ((UInt8.ofNat (x / 256 ^ k)).toNat : Int) := by
  rw [UInt8.toNat_ofNat']
  omega

theorem or_high (p : List UInt8) (u : UInt8) (k : Nat) (hk : p.length = k) (h8 : k < 8) :
    bits .or .u64 ((leVal p : Nat) : Int) (IntKind.u64.wrap (IntKind.u64.wrap (u.toNat : Int) * 2 ^ (8 * k))) = ((leVal (p ++ [u]) : Nat) : Int) := by
  have hp := leVal_lt p
  have hu := u.toNat_lt
  rw [hk] at hp
  have e1 : IntKind.u64.wrap (u.toNat : Int) = (u.toNat : Int) := by rw [IntKind.wrap_u64]; omega
  have hb : u.toNat * 2 ^ (8 * k) < 18446744073709551616 := by
    have : 2 ^ (8 * k) ≤ 2 ^ 56 := Nat.pow_le_pow_right (by omega) (by omega)
    calc u.toNat * 2 ^ (8 * k) ≤ u.toNat * 2 ^ 56 := Nat.mul_le_mul_left _ this
      _ < 18446744073709551616 := by omega
  have e2 : IntKind.u64.wrap ((u.toNat : Int) * 2 ^ (8 * k)) = ((u.toNat * 2 ^ (8 * k) : Nat) : Int) := by
    have : (u.toNat : Int) * 2 ^ (8 * k) = ((u.toNat * 2 ^ (8 * k) : Nat) : Int) := by simp
    rw [this, IntKind.wrap_u64]
    omega
  have hp2 : leVal p < 2 ^ (8 * k) := by rw [Nat.pow_mul]; exact hp
  have hl : leVal p < 18446744073709551616 := by
    have : 2 ^ (8 * k) ≤ 2 ^ 56 := Nat.pow_le_pow_right (by omega) (by omega)
    omega
  rw [e1, e2, u64_or_nat _ _ hl hb, Nat.or_comm, Nat.mul_comm, ← Nat.two_pow_add_eq_or_of_lt hp2, leVal_append, hk]
  simp only [leVal, Nat.mul_zero, Nat.add_zero]
  rw [show (256 : Nat) ^ k = 2 ^ (8 * k) from by rw [Nat.pow_mul]]
  omega

theorem take_one_more {α : Type} (l : List α) (a k : Nat) (u : α) (h : l[a + k]? = some u) : (l.drop a).take (k + 1) = (l.drop a).take k ++ [u] := by
  rw [List.take_add_one, List.getElem?_drop, h]
  rfl
theorem take_length_of {α : Type} (l : List α) (a k n : Nat) (h : l.length = n) (hk : a + k ≤ n) : ((l.drop a).take k).length = k := by
  rw [List.length_take, List.length_drop]
  omega
theorem drop_one_less {α : Type} (l : List α) (a k : Nat) (u : α) (h : l[a]? = some u) : (l.drop a).take (k + 1) = u :: (l.drop (a + 1)).take k := by
  have hlt : a < l.length := by
    rcases Nat.lt_or_ge a l.length with h' | h'
    · exact h'
    · rw [List.getElem?_eq_none h'] at h; cases h
  rw [List.drop_eq_getElem_cons hlt, List.take_succ_cons]
  rw [List.getElem?_eq_getElem hlt] at h
  injection h with h
  rw [h]

/-- What is made of bytes in groups of seven bits, from the i-th on, behind what stands in acc: the number, how many bytes, the error. -/
def vdec (i acc : Nat) : List UInt8 → Nat × Nat × Nat
  | [] => (0, 0, 5)
  | u :: r => if (i = 9 ∧ 1 < u.toNat) ∨ (0 < i ∧ u.toNat = 0) then (0, 0, 3) else if u.toNat < 128 then (acc + u.toNat % 128 * 2 ^ (7 * i), i + 1, 0) else vdec (i + 1) (acc + u.toNat % 128 * 2 ^ (7 * i)) r

/-- What Var answers: the number, the place behind it, the error. -/
def varR (l : List UInt8) (at_ : Int) : Nat × Nat × Nat :=
  if 0 ≤ at_ ∧ at_ ≤ l.length then
    if (vdec 0 0 (l.drop at_.toNat)).2.2 = 0 then ((vdec 0 0 (l.drop at_.toNat)).1, at_.toNat + (vdec 0 0 (l.drop at_.toNat)).2.1, 0) else (0, 0, (vdec 0 0 (l.drop at_.toNat)).2.2)
  else (0, 0, 2)

theorem varR_out (l : List UInt8) (at_ : Int) (h : ¬ (0 ≤ at_ ∧ at_ ≤ l.length)) : varR l at_ = (0, 0, 2) := by rw [varR, if_neg h]
theorem varR_in (l : List UInt8) (a : Nat) (h : a ≤ l.length) (n p e : Nat) (hd : vdec 0 0 (l.drop a) = (n, p, e)) : varR l (a : Int) = if e = 0 then (n, a + p, 0) else (0, 0, e) := by
  rw [varR, if_pos ⟨by omega, by omega⟩, Int.toNat_natCast, hd]

theorem or_seven (acc u i : Nat) (ha : acc < 2 ^ (7 * i)) (hu : u < 128) (h9 : i < 9 ∨ i = 9 ∧ u ≤ 1) :
    bits .or .u64 (acc : Int) (IntKind.u64.wrap ((u : Int) * 2 ^ (7 * i))) = ((acc + u * 2 ^ (7 * i) : Nat) : Int) ∧ acc + u * 2 ^ (7 * i) < 2 ^ (7 * (i + 1)) ∧ acc + u * 2 ^ (7 * i) < 2 ^ 64 := by
  have hs : 2 ^ (7 * (i + 1)) = 128 * 2 ^ (7 * i) := by rw [Nat.mul_add, Nat.pow_add]; omega
  have hm : (u + 1) * 2 ^ (7 * i) ≤ 128 * 2 ^ (7 * i) := Nat.mul_le_mul_right _ (by omega)
  rw [Nat.add_mul, Nat.one_mul] at hm
  have hb : acc + u * 2 ^ (7 * i) < 2 ^ 64 := by
    rcases h9 with h9 | ⟨rfl, h1⟩
    · have : 2 ^ (7 * (i + 1)) ≤ 2 ^ 63 := Nat.pow_le_pow_right (by omega) (by omega)
      omega
    · have : u * 2 ^ (7 * 9) ≤ 1 * 2 ^ (7 * 9) := Nat.mul_le_mul_right _ h1
      omega
  refine ⟨?_, by omega, hb⟩
  have e2 : IntKind.u64.wrap ((u : Int) * 2 ^ (7 * i)) = ((u * 2 ^ (7 * i) : Nat) : Int) := by
    have : (u : Int) * 2 ^ (7 * i) = ((u * 2 ^ (7 * i) : Nat) : Int) := by simp
    rw [this, IntKind.wrap_u64]
    omega
  rw [e2, u64_or_nat _ _ (by omega) (by omega), Nat.or_comm, Nat.mul_comm, ← Nat.two_pow_add_eq_or_of_lt ha]
  omega

theorem or_seven_mod (acc x i : Nat) (ha : acc < 2 ^ (7 * i)) (h9 : i < 9 ∨ i = 9 ∧ x % 128 ≤ 1) :
    bits .or .u64 (acc : Int) (IntKind.u64.wrap ((x : Int) % 128 * 2 ^ (7 * i))) = ((acc + x % 128 * 2 ^ (7 * i) : Nat) : Int) ∧ acc + x % 128 * 2 ^ (7 * i) < 2 ^ (7 * (i + 1)) ∧ acc + x % 128 * 2 ^ (7 * i) < 2 ^ 64 := by
  rw [show ((x : Int) % 128) = ((x % 128 : Nat) : Int) from by omega]
  exact or_seven acc (x % 128) i ha (by omega) h9

theorem add_seven (y x z k : Nat) (hz : z = 2 ^ (7 * k)) (hb : y + x % 128 * 2 ^ (7 * k) < 2 ^ 64) :
    IntKind.u64.wrap ((y : Int) + IntKind.u64.wrap ((z : Int) * ((x : Int) % 128))) = ((y + x % 128 * 2 ^ (7 * k) : Nat) : Int) := by
  rw [show ((x : Int) % 128) = ((x % 128 : Nat) : Int) from by omega, ← Int.natCast_mul, Nat.mul_comm, hz]
  generalize x % 128 * 2 ^ (7 * k) = m at *
  rw [IntKind.wrap_u64, IntKind.wrap_u64]
  omega
theorem mul_seven (z k : Nat) (hz : z = 2 ^ (7 * k)) (hk : k < 9) : IntKind.u64.wrap ((z : Int) * 128) = ((2 ^ (7 * (k + 1)) : Nat) : Int) := by
  have h1 : 2 ^ (7 * (k + 1)) = z * 128 := by rw [hz, Nat.mul_add, Nat.pow_add]
  have h2 : 2 ^ (7 * (k + 1)) ≤ 2 ^ 63 := Nat.pow_le_pow_right (by omega) (by omega)
  rw [h1] at h2 ⊢
  rw [IntKind.wrap_u64]
  omega

/-- A number in groups of seven bits, at most f + 1 of them. -/
def venc : Nat → Nat → List UInt8
  | 0, n => [UInt8.ofNat n]
  | f + 1, n => if n < 128 then [UInt8.ofNat n] else UInt8.ofNat (n % 128 + 128) :: venc f (n / 128)
theorem venc_small (f n : Nat) (h : n < 128) : venc f n = [UInt8.ofNat n] := by
  cases f
  · rfl
  · rw [venc, if_pos h]
theorem venc_more (f n : Nat) (h : ¬ n < 128) : venc (f + 1) n = UInt8.ofNat (n % 128 + 128) :: venc f (n / 128) := by rw [venc, if_neg h]
theorem venc_length : ∀ f n, (venc f n).length ≤ f + 1
  | 0, _ => by simp [venc]
  | f + 1, n => by
    rw [venc]
    split
    · simp
    · simp only [List.length_cons]
      have := venc_length f (n / 128)
      omega
theorem venc_pos (f n : Nat) : 0 < (venc f n).length := by
  cases f
  · simp [venc]
  · rw [venc]
    split <;> simp
end Go.Proofs.YtpijfghklgmefaaDoor

namespace Go.Proofs.YtpijfghklgmefaaDoor
open Go.RowKit
set_option linter.unusedVariables false

set_option maxHeartbeats 400000 in
theorem nfits_yes (n : Int) (h1 : 1 ≤ n) (h2 : n ≤ 8) (w : World) : Calls Tryd.prog 68 #[.int .i64 n] w fun e w' => e = .returned (.bool true) ∧ w = w' := by
  go_enter Tryd.func68, Tryd.ntmps68
  go_wp2
  go_ret
  exact ⟨rfl, rfl⟩

set_option maxHeartbeats 400000 in
theorem nfits_no (n : Int) (h : ¬ (1 ≤ n ∧ n ≤ 8)) (w : World) : Calls Tryd.prog 68 #[.int .i64 n] w fun e w' => e = .returned (.bool false) ∧ w = w' := by
  by_cases h1 : 1 ≤ n
  · have h2 : ¬ (n ≤ 8) := fun h2 => h ⟨h1, h2⟩
    clear h
    go_enter Tryd.func68, Tryd.ntmps68
    go_wp2
    go_ret
    exact ⟨rfl, rfl⟩
  · clear h
    go_enter Tryd.func68, Tryd.ntmps68
    go_wp2
    go_ret
    exact ⟨rfl, rfl⟩

set_option maxHeartbeats 400000 in
theorem inside_yes (A : Option Addr) (n c : Nat) (at_ : Int) (hn : n ≤ maxLen) (h0 : 0 ≤ at_) (h1 : at_ ≤ n) (w : World) :
    Calls Tryd.prog 58 #[.slice A n c, .int .i64 at_] w fun e w' => e = .returned (.bool true) ∧ w = w' := by
  unfold maxLen at hn
  go_enter Tryd.func58, Tryd.ntmps58
  go_wp2
  go_ret
  exact ⟨rfl, rfl⟩

set_option maxHeartbeats 400000 in
theorem inside_no (A : Option Addr) (n c : Nat) (at_ : Int) (hn : n ≤ maxLen) (h : ¬ (0 ≤ at_ ∧ at_ ≤ n)) (w : World) :
    Calls Tryd.prog 58 #[.slice A n c, .int .i64 at_] w fun e w' => e = .returned (.bool false) ∧ w = w' := by
  unfold maxLen at hn
  by_cases h0 : 0 ≤ at_
  · have h1 : ¬ (at_ ≤ n) := fun h1 => h ⟨h0, h1⟩
    clear h
    go_enter Tryd.func58, Tryd.ntmps58
    go_wp2
    go_ret
    exact ⟨rfl, rfl⟩
  · clear h
    go_enter Tryd.func58, Tryd.ntmps58
    go_wp2
    go_ret
    exact ⟨rfl, rfl⟩

set_option maxHeartbeats 400000 in
theorem cut_any (A : Option Addr) (n c : Nat) (h : n ≤ c) (hc : c ≤ maxLen) (w : World) :
    Calls Tryd.prog 44 #[.slice A n c] w fun e w' => e = .returned (.slice A n n) ∧ w = w' := by
  unfold maxLen at hc
  go_enter Tryd.func44, Tryd.ntmps44
  go_wp2
  go_ret
  exact ⟨rfl, rfl⟩

set_option maxHeartbeats 400000 in
theorem clone_mine (A : Option Addr) (n c : Nat) (l : List UInt8) (w : World) (h : Sl w 1 A n c (cells l)) (h47 : n ≤ 140737488355328) :
    Calls Tryd.prog 47 #[.slice A n c] w (RetMine w.heap.size w l) := by
  have hne := fun (W : World) => Lib.run_eql_slice_nil (P := Tryd.prog) W 26 5 A n c 0 0 Tryd.underlying26
  rcases A with _ | ad
  · go_enter Tryd.func47, Tryd.ntmps47
    go_wp2
    go_ret
    have hl : l = [] := by
      rcases l with _ | ⟨u, r⟩
      · rfl
      · obtain ⟨_, _, e, _⟩ := h.cell 0 (bv u) rfl
        cases e
    subst hl
    exact ⟨none, 0, 0, rfl, Sl.nil _ _ _ (by decide), Below.refl _ _, fun h => absurd h (by omega)⟩
  · go_enter Tryd.func47, Tryd.ntmps47
    go_wp2_with (at_builtin; refine wpList_append_bm (B := w.heap.size) rfl (.tmp 5) (.tmp 6) rfl rfl (Own.full (Sl.empty _ _ _ 0 (by decide))) ?c1 (some ad) n c l rfl ?c2 ?c3 ?c4)
    case c1 => simp
    case c2 => exact h.alloc _
    case c3 => omega
    intro A' c' w' ho hb hm
    have Hm := Lib.hid hm; clear hm
    go_wp2
    go_ret
    exact ⟨A', _, c', rfl, ho.sl, ((Below.refl _ _).alloc (Nat.le_refl _) _).trans hb, fun hn => Mine.of_own (Hm.out (by omega)) (by omega)⟩

theorem bclone_any (A : Option Addr) (n c : Nat) (l : List UInt8) (w : World) (h : Sl w 1 A n c (cells l)) (h47 : n ≤ 140737488355328) :
    Calls Tryd.prog 47 #[.slice A n c] w (RetBytes w.heap.size w l) := (clone_mine A n c l w h h47).mono fun _ _ h => h.ret
end Go.Proofs.YtpijfghklgmefaaDoor

namespace Go.Proofs.YtpijfghklgmefaaDoor
open Go.RowKit
set_option linter.unusedVariables false

set_option maxHeartbeats 400000 in
theorem put_no (A : Option Addr) (n c : Nat) (l : List UInt8) (m : Int) (x : Int) (w : World) (h : Sl w 1 A n c (cells l)) (h47 : n ≤ 140737488355320) (hm : ¬ (1 ≤ m ∧ m ≤ 8)) :
    Calls Tryd.prog 54 #[.slice A n c, .int .i64 m, .int .u64 x] w (RetBytes w.heap.size w l) := by
  go_enter Tryd.func54, Tryd.ntmps54
  go_wp2_with fail
  refine (nfits_no m hm _).mono ?_; rintro e w' ⟨rfl, rfl⟩
  go_wp2_with fail
  refine (bclone_any A n c l _ h (by omega)).mono ?_; rintro e w1 ⟨A1, n1, c1, rfl, h1, hb⟩
  go_wp2_with fail
  refine (cut_any A1 n1 c1 h1.cap h1.top _).mono ?_; rintro e w2 ⟨rfl, rfl⟩
  go_wp2_with fail
  go_ret
  exact ⟨A1, n1, n1, rfl, h1.recap (Nat.le_refl _) h1.lim, hb⟩

set_option maxHeartbeats 400000 in
theorem put_yes (A : Option Addr) (n c : Nat) (l : List UInt8) (m : Nat) (x : Nat) (w : World) (h : Sl w 1 A n c (cells l)) (h47 : n ≤ 140737488355320) (hm1 : 1 ≤ m) (hm8 : m ≤ 8) (hx : x < 2 ^ 64) :
    Calls Tryd.prog 54 #[.slice A n c, .int .i64 (m : Int), .int .u64 (x : Int)] w (RetBytes w.heap.size w (l ++ le m x)) := by
  go_enter Tryd.func54, Tryd.ntmps54
  go_wp2_with fail
  refine (nfits_yes (m : Int) (by omega) (by omega) _).mono ?_; rintro e w' ⟨rfl, rfl⟩
  go_wp2_with fail
  refine (cut_any A n c h.cap h.top _).mono ?_; rintro e w' ⟨rfl, rfl⟩
  go_wp2_with fail
  go_loopw [7, 18] (fun v i wr => ∃ (k : Nat) (A' : Option Addr) (n' c' : Nat), k ≤ m ∧ i = .int .i64 (k : Int) ∧ v = .slice A' n' c' ∧ Own wr w.heap.size 5 1 A' n' c' (cells (l ++ le k x)) ∧ Below w.heap.size w wr) (fun _ i _ => m - (intOf i).toNat)
  case atStart => exact ⟨0, A, n, n, by omega, rfl, rfl, by simpa [le] using Own.full (h.recap (Nat.le_refl _) h.lim), Below.refl _ _⟩
  case round =>
    obtain ⟨k, A', n', c', hk, rfl, rfl, ho, hb⟩ := hrel
    by_cases hlt : k < m
    · have hb8 := le_byte_at x k
      have hlen := ho.sl.len
      rw [cells_length, List.length_append, le_length] at hlen
      have hl := h.len
      rw [cells_length] at hl
      have Hb := Lib.hid hb8; clear hb8
      have Hl := Lib.hid hlen; clear hlen
      have Hl2 := Lib.hid hl; clear hl
      go_wp2_with (at_builtin; refine wpList_append_b (B := w.heap.size) rfl (.tmp 21) (.tmp 27) rfl rfl (ho.alloc _) ?c1 (some ⟨wr.heap.size, 0, none⟩) 1 1 [UInt8.ofNat (x / 256 ^ k)] rfl (Sl.one _ _ _ _ Hb.out) ?c3 ?c4)
      case c1 => have := hb.size; simp; omega
      case c3 => have := Hl.out; have := Hl2.out; omega
      intro A2 c2 w2 ho2 hb2
      go_wp2_with fail
      go_roundw
      case rel => exact ⟨k + 1, A2, n' + 1, c2, by omega, by go_num, rfl, by simpa [le, cells_append, List.append_assoc] using ho2, (hb.alloc hb.size _).trans hb2⟩
      case measure => simp [intOf]; omega
    · go_wp2_with fail
      refine (cut_any A' n' c' ho.sl.cap ho.sl.top _).mono ?_; rintro e w' ⟨rfl, rfl⟩
      go_wp2_with fail
      go_ret
      obtain rfl : k = m := by omega
      exact ⟨A', n', n', rfl, ho.sl.recap (Nat.le_refl _) ho.sl.lim, hb⟩
end Go.Proofs.YtpijfghklgmefaaDoor

namespace Go.Proofs.YtpijfghklgmefaaDoor
open Go.RowKit
set_option linter.unusedVariables false

set_option maxHeartbeats 400000 in
theorem get_width (A : Option Addr) (n c : Nat) (at_ m : Int) (w : World) (hm : ¬ (1 ≤ m ∧ m ≤ 8)) :
    Calls Tryd.prog 55 #[.slice A n c, .int .i64 at_, .int .i64 m] w fun e w' => e = .returned (.tuple #[.int .u64 0, .int .i64 2]) ∧ w = w' := by
  go_enter Tryd.func55, Tryd.ntmps55
  go_wp2_with fail
  refine (nfits_no m hm _).mono ?_; rintro e w' ⟨rfl, rfl⟩
  go_wp2_with fail
  go_ret2
  exact ⟨rfl, rfl⟩

set_option maxHeartbeats 400000 in
theorem get_place (A : Option Addr) (n c : Nat) (at_ m : Int) (w : World) (hn : n ≤ maxLen) (h1 : 1 ≤ m) (h8 : m ≤ 8) (ha : ¬ (0 ≤ at_ ∧ at_ ≤ n)) :
    Calls Tryd.prog 55 #[.slice A n c, .int .i64 at_, .int .i64 m] w fun e w' => e = .returned (.tuple #[.int .u64 0, .int .i64 2]) ∧ w = w' := by
  have Ha := Lib.hid ha; clear ha
  go_enter Tryd.func55, Tryd.ntmps55
  go_wp2_with fail
  refine (nfits_yes m h1 h8 _).mono ?_; rintro e w' ⟨rfl, rfl⟩
  go_wp2_with fail
  refine (inside_no A n c at_ hn Ha.out _).mono ?_; rintro e w' ⟨rfl, rfl⟩
  go_wp2_with fail
  go_ret2
  exact ⟨rfl, rfl⟩

set_option maxHeartbeats 400000 in
theorem get_short (A : Option Addr) (n c : Nat) (a : Nat) (m : Int) (w : World) (hn : n ≤ maxLen) (h1 : 1 ≤ m) (h8 : m ≤ 8) (ha : a ≤ n) (hs : (n : Int) - a < m) :
    Calls Tryd.prog 55 #[.slice A n c, .int .i64 (a : Int), .int .i64 m] w fun e w' => e = .returned (.tuple #[.int .u64 0, .int .i64 5]) ∧ w = w' := by
  have hn' := hn
  unfold maxLen at hn'
  go_enter Tryd.func55, Tryd.ntmps55
  go_wp2_with fail
  refine (nfits_yes m h1 h8 _).mono ?_; rintro e w' ⟨rfl, rfl⟩
  go_wp2_with fail
  refine (inside_yes A n c a hn (by omega) (by omega) _).mono ?_; rintro e w' ⟨rfl, rfl⟩
  go_wp2_with fail
  go_ret2
  exact ⟨rfl, rfl⟩

set_option maxHeartbeats 400000 in
theorem get_ok (A : Option Addr) (n c : Nat) (l : List UInt8) (a m : Nat) (w : World) (h : Sl w 1 A n c (cells l)) (h1 : 1 ≤ m) (h8 : m ≤ 8) (ha : a + m ≤ n) :
    Calls Tryd.prog 55 #[.slice A n c, .int .i64 (a : Int), .int .i64 (m : Int)] w fun e w' => e = .returned (.tuple #[.int .u64 (leVal ((l.drop a).take m) : Nat), .int .i64 0]) ∧ w = w' := by
  have hn := h.lim
  have hn' := hn
  unfold maxLen at hn'
  go_enter Tryd.func55, Tryd.ntmps55
  go_wp2_with fail
  refine (nfits_yes (m : Int) (by omega) (by omega) _).mono ?_; rintro e w' ⟨rfl, rfl⟩
  go_wp2_with fail
  refine (inside_yes A n c (a : Int) hn (by omega) (by omega) _).mono ?_; rintro e w' ⟨rfl, rfl⟩
  have hs : ¬ ((n : Int) - a < m) := by omega
  go_wp2_with fail
  obtain ⟨b, o, rfl, hc⟩ := h.at_ (k := 0) (by omega)
  go_loop [8, 26] (fun v i => ∃ k : Nat, k ≤ m ∧ i = .int .i64 (k : Int) ∧ v = .int .u64 (leVal ((l.drop a).take k) : Nat)) (fun _ i => m - (intOf i).toNat)
  case atStart => exact ⟨0, by omega, rfl, rfl⟩
  case round =>
    obtain ⟨k, hk, rfl, rfl⟩ := hrel
    by_cases hlt : k < m
    · obtain ⟨u, hu⟩ : ∃ u, l[a + k]? = some u := ⟨_, List.getElem?_eq_getElem (by have := h.len; rw [cells_length] at this; omega)⟩
      have hcell : w.cell? ⟨b, o + (a + k), none⟩ = some (.int .u8 (u.toNat : Int)) := hc _ _ (by simp [cells, hu, bv])
      have Hu := Lib.hid hu; clear hu
      go_wp2_with fail
      go_round
      case rel => exact ⟨k + 1, by omega, by go_num, by rw [or_high _ u k (take_length_of l a k n (by have := h.len; rw [cells_length] at this; omega) (by omega)) (by omega), take_one_more l a k u Hu.out]⟩
      case measure => simp [intOf]; omega
    · go_wp2_with fail
      go_ret2
      obtain rfl : k = m := by omega
      exact ⟨rfl, rfl⟩

set_option maxHeartbeats 400000 in
theorem joined_any (A1 A2 : Option Addr) (n1 c1 n2 c2 : Nat) (l k : List UInt8) (w : World) (h1 : Sl w 1 A1 n1 c1 (cells l)) (h2 : Sl w 1 A2 n2 c2 (cells k)) (h47 : n1 + n2 ≤ 140737488355328) :
    Calls Tryd.prog 73 #[.slice A1 n1 c1, .slice A2 n2 c2] w (RetBytes w.heap.size w (l ++ k)) := by
  go_enter Tryd.func73, Tryd.ntmps73
  go_wp2_with (at_builtin; refine wpList_append_b (B := w.heap.size) rfl (.tmp 5) (.tmp 6) rfl rfl (Own.full (Sl.empty _ _ _ 0 (by decide))) ?c1 A1 n1 c1 l rfl ?c2 ?c3 ?c4)
  case c1 => simp
  case c2 => exact h1.alloc _
  case c3 => omega
  intro A' c' w1 ho hb
  have hb0 : Below w.heap.size w w1 := ((Below.refl _ _).alloc (Nat.le_refl _) _).trans hb
  clear hb
  have hz := hb0.size
  go_wp2_with (at_builtin; refine wpList_append_b (B := w.heap.size) rfl (.tmp 7) (.tmp 8) rfl rfl ho hz A2 n2 c2 k rfl ?d2 ?d3 ?d4)
  case d2 => exact h2.below hb0 (Nat.le_refl _)
  case d3 => omega
  intro A2' c2' w2 ho2 hb2
  go_wp2
  go_ret
  exact ⟨A2', _, c2', rfl, by simpa [cells_append] using ho2.sl, hb0.trans hb2⟩

set_option maxHeartbeats 400000 in
theorem rput_any (A : Option Addr) (n c : Nat) (l : List UInt8) (m : Int) (x : Nat) (w : World) (h : Sl w 1 A n c (cells l)) (h47 : n ≤ 140737488355320) (hx : x < 2 ^ 64) :
    Calls Tryd.prog 63 #[.slice A n c, .int .i64 m, .int .u64 (x : Int)] w (RetBytes w.heap.size w (l ++ le (if m ≤ 8 then m.toNat else 0) x)) := by
  have Hl := Lib.hid h.len
  by_cases hm : m ≤ 8
  · rw [if_pos hm]
    go_enter Tryd.func63, Tryd.ntmps63
    go_wp2_with fail
    go_loopw [2, 7, 8] (fun u v i wr => ∃ (k y : Nat) (A' : Option Addr) (n' c' : Nat), y = x / 256 ^ k ∧ (k : Int) ≤ max m 0 ∧ i = .int .i64 (k : Int) ∧ u = .int .u64 (y : Int) ∧ v = .slice A' n' c' ∧ Own wr w.heap.size 5 1 A' n' c' (cells (le k x)) ∧ Below w.heap.size w wr) (fun _ _ i _ => m.toNat - (intOf i).toNat)
    case atStart => exact ⟨0, x, none, 0, 0, by simp, by omega, rfl, rfl, rfl, Own.full (Sl.nil _ _ _ (by decide)), Below.refl _ _⟩
    case round =>
      obtain ⟨k, y, A', n', c', hy, hk, rfl, rfl, rfl, ho, hb⟩ := hrel
      have hyb : y < 2 ^ 64 := by rw [hy]; exact Nat.lt_of_le_of_lt (Nat.div_le_self _ _) hx
      have Hy := Lib.hid hy; clear hy
      by_cases hlt : (k : Int) < m
      · have hb8 := byte_div x k
        rw [← Hy.out] at hb8
        have hlen := ho.sl.len
        rw [cells_length, le_length] at hlen
        have Hb := Lib.hid hb8; clear hb8
        have Hn := Lib.hid hlen; clear hlen
        go_wp2_with (at_builtin; refine wpList_append_b (B := w.heap.size) rfl (.tmp 18) (.tmp 22) rfl rfl (ho.alloc _) ?c1 (some ⟨wr.heap.size, 0, none⟩) 1 1 [UInt8.ofNat y] rfl (Sl.one _ _ _ _ Hb.out) ?c3 ?c4)
        case c1 => have := hb.size; simp; omega
        case c3 => have := Hn.out; omega
        intro A2 c2 w2 ho2 hb2
        go_wp2_with fail
        go_roundw
        case rel => exact ⟨k + 1, y / 256, A2, n' + 1, c2, by rw [Hy.out, Nat.pow_succ, ← Nat.div_div_eq_div_mul], by omega, by go_num, by go_num, rfl, by simpa [le, cells_append, List.append_assoc, Hy.out] using ho2, (hb.alloc hb.size _).trans hb2⟩
        case measure => simp [intOf]; omega
      · have hk0 : m.toNat = k := by omega
        have hlen := ho.sl.len
        rw [cells_length, le_length] at hlen
        have Hk := Lib.hid hk0; clear hk0
        have Hn := Lib.hid hlen; clear hlen
        go_wp2_with fail
        refine (joined_any A A' n c n' c' l (le k x) _ (h.below hb (Nat.le_refl _)) ho.sl (by have := Hn.out; omega)).mono ?_
        rintro e w3 ⟨A3, n3, c3, rfl, h3, hb3⟩
        go_wp2_with fail
        go_ret
        rw [Hk.out]
        exact ⟨A3, n3, c3, rfl, h3, hb.trans (hb3.mono hb.size)⟩
  · rw [if_neg hm]
    go_enter Tryd.func63, Tryd.ntmps63
    go_wp2_with fail
    go_loopw [2, 7, 8] (fun u v i wr => i = .int .i64 0 ∧ v = .slice none 0 0 ∧ Below w.heap.size w wr) (fun _ _ i _ => 0)
    case atStart => exact ⟨rfl, rfl, Below.refl _ _⟩
    case round =>
      obtain ⟨rfl, rfl, hb⟩ := hrel
      go_wp2_with fail
      refine (joined_any A none n c 0 0 l [] _ (h.below hb (Nat.le_refl _)) (Sl.nil _ _ _ (by decide)) (by omega)).mono ?_
      rintro e w3 ⟨A3, n3, c3, rfl, h3, hb3⟩
      go_wp2_with fail
      go_ret
      exact ⟨A3, n3, c3, rfl, h3, hb.trans (hb3.mono hb.size)⟩
end Go.Proofs.YtpijfghklgmefaaDoor

namespace Go.Proofs.YtpijfghklgmefaaDoor
open Go.RowKit
set_option linter.unusedVariables false

set_option maxHeartbeats 400000 in
theorem rget_arg (A : Option Addr) (n c : Nat) (at_ m : Int) (w : World) (hn : n ≤ maxLen) (hm : ¬ (1 ≤ m ∧ m ≤ 8) ∨ ¬ (0 ≤ at_ ∧ at_ ≤ n)) :
    Calls Tryd.prog 43 #[.slice A n c, .int .i64 at_, .int .i64 m] w fun e w' => e = .returned (.tuple #[.int .u64 0, .int .i64 2]) ∧ w = w' := by
  unfold maxLen at hn
  by_cases h1 : m < 1
  · clear hm
    go_enter Tryd.func43, Tryd.ntmps43
    go_wp2_with fail
    go_ret2
    exact ⟨rfl, rfl⟩
  by_cases h2 : m > 8
  · clear hm
    go_enter Tryd.func43, Tryd.ntmps43
    go_wp2_with fail
    go_ret2
    exact ⟨rfl, rfl⟩
  by_cases h3 : at_ < 0
  · clear hm
    go_enter Tryd.func43, Tryd.ntmps43
    go_wp2_with fail
    go_ret2
    exact ⟨rfl, rfl⟩
  have h4 : at_ > n := by omega
  clear hm
  go_enter Tryd.func43, Tryd.ntmps43
  go_wp2_with fail
  go_ret2
  exact ⟨rfl, rfl⟩

set_option maxHeartbeats 400000 in
theorem rget_short (A : Option Addr) (n c : Nat) (a : Nat) (m : Int) (w : World) (hn : n ≤ maxLen) (h1 : 1 ≤ m) (h8 : m ≤ 8) (ha : a ≤ n) (hs : (n : Int) - a < m) :
    Calls Tryd.prog 43 #[.slice A n c, .int .i64 (a : Int), .int .i64 m] w fun e w' => e = .returned (.tuple #[.int .u64 0, .int .i64 5]) ∧ w = w' := by
  unfold maxLen at hn
  have h1' : ¬ m < 1 := by omega
  have h8' : ¬ m > 8 := by omega
  have ha' : ¬ (a : Int) > n := by omega
  go_enter Tryd.func43, Tryd.ntmps43
  go_wp2_with fail
  go_ret2
  exact ⟨rfl, rfl⟩

set_option maxHeartbeats 400000 in
theorem rget_ok (A : Option Addr) (n c : Nat) (l : List UInt8) (a m : Nat) (w : World) (h : Sl w 1 A n c (cells l)) (h1 : 1 ≤ m) (h8 : m ≤ 8) (ha : a + m ≤ n) :
    Calls Tryd.prog 43 #[.slice A n c, .int .i64 (a : Int), .int .i64 (m : Int)] w fun e w' => e = .returned (.tuple #[.int .u64 (leVal ((l.drop a).take m) : Nat), .int .i64 0]) ∧ w = w' := by
  have hn := h.lim
  unfold maxLen at hn
  have h1' : ¬ (m : Int) < 1 := by omega
  have h8' : ¬ (m : Int) > 8 := by omega
  have ha' : ¬ (a : Int) > n := by omega
  have hs : ¬ ((n : Int) - a < m) := by omega
  obtain ⟨b, o, rfl, hc⟩ := h.at_ (k := 0) (by omega)
  go_enter Tryd.func43, Tryd.ntmps43
  go_wp2_with fail
  go_loop [8, 9] (fun v i => ∃ (j y : Nat), j ≤ m ∧ i = .int .i64 ((j : Int) - 1) ∧ v = .int .u64 (y : Int) ∧ y = leVal ((l.drop (a + j)).take (m - j))) (fun _ i => (intOf i + 1).toNat)
  case atStart => exact ⟨m, 0, by omega, rfl, rfl, by simp [leVal]⟩
  case round =>
    obtain ⟨j, y, hj, rfl, rfl, hy⟩ := hrel
    have Hy := Lib.hid hy; clear hy
    by_cases hlt : 0 < j
    · obtain ⟨j, rfl⟩ : ∃ i, j = i + 1 := ⟨j - 1, by omega⟩
      obtain ⟨u, hu⟩ : ∃ u, l[a + j]? = some u := ⟨_, List.getElem?_eq_getElem (by have := h.len; rw [cells_length] at this; omega)⟩
      have hcell : w.cell? ⟨b, o + (a + j), none⟩ = some (.int .u8 (u.toNat : Int)) := hc _ _ (by simp [cells, hu, bv])
      have Hu := Lib.hid hu; clear hu
      have hyb : 256 * y + 255 < 2 ^ 64 := by
        have := leVal_lt ((l.drop (a + (j + 1))).take (m - (j + 1)))
        rw [← Hy.out] at this
        have h2 : 256 ^ ((l.drop (a + (j + 1))).take (m - (j + 1))).length ≤ 256 ^ 7 := Nat.pow_le_pow_right (by omega) (by rw [List.length_take]; omega)
        omega
      have hub := u.toNat_lt
      go_wp2_with fail
      go_round
      case rel => exact ⟨j, 256 * y + u.toNat, by omega, rfl, by go_num, by rw [show m - j = (m - (j + 1)) + 1 from by omega, drop_one_less l (a + j) _ u Hu.out, leVal, Hy.out, Nat.add_assoc, Nat.add_comm]⟩
      case measure => simp [intOf] <;> omega
    · go_wp2_with fail
      go_ret2
      obtain rfl : j = 0 := by omega
      exact ⟨by rw [Hy.out]; rfl, rfl⟩
end Go.Proofs.YtpijfghklgmefaaDoor

/-
  The document's array (layer 10): contracts of Has, of its calls at one drive, Alive and Flush. Condition: the array is not nil; bounds. (Written by gen_dtn.py.)
-/
import Derived.Test.YtjjoeaneaibklaaIc
import Derived.Test.YtjjoeaneaibklaaDto
namespace Go.Proofs.Ytjjoeaneaibklaa
open Go.RowKit Go.Proofs
set_option linter.unusedVariables false

def Rk10 (k : Nat) : World → (Nat → Prop) → Nat → Dv → Prop := fun w S D x => Rf w S D k x
theorem layX (k : Nat) : LayR (Rk10 k) := ⟨fun h hf hT => Rf.fr h hf hT, fun h => h.1⟩
/-- The document's array, of drives with at most k events each. -/
def RX (k : Nat) (w : World) (S : Nat → Prop) (A : Nat) (xs : List Dv) : Prop := Arr (Rk10 k) 68 64 w S A xs
def MutX (k : Nat) (S : Nat → Prop) (A : Nat) (ys : List Dv) (w w' : World) : Prop := ∃ S', RX k w' S' A ys ∧ Nxt S S' w w'
section
variable {w w' : World} {S : Nat → Prop} {A c i k : Nat} {AL : Option Addr} {ds : List Ds} {d : Ds} {xs : List Dv}
theorem RX.mono (h : RX k w S A xs) {k' : Nat} (hk : k ≤ k') : RX k' w S A xs := Arr.imp (fun _ _ _ _ q => Rf.mono q hk) h
set_option maxRecDepth 100000
set_option maxHeartbeats 1600000
theorem rxhas_yes (h : Ars (Rk10 k) 68 64 w S A AL c ds) (hd : ds[i]? = some d) : Calls Try.prog 47 #[.pointer (some ⟨A, 0, none⟩), .int .i64 (i : Int)] w fun e w' => e = .returned (.bool true) ∧ w' = w := by
  have c0 := h.c0
  have hi := get_lt hd
  obtain ⟨n, hn⟩ : ∃ n, n = ds.length := ⟨_, rfl⟩
  rw [← hn] at c0 hi
  have hii : (i : Int) < (n : Int) := by omega
  have hi0 : (0 : Int) ≤ (i : Int) := by omega
  clear hn h hd
  go_enter Try.func47, Try.ntmps47
  go_wp2_with fail
  go_ret
  exact ⟨rfl, rfl⟩
theorem rxhas_no (h : Ars (Rk10 k) 68 64 w S A AL c ds) (z : Int) (hz : z < 0 ∨ (ds.length : Int) ≤ z) : Calls Try.prog 47 #[.pointer (some ⟨A, 0, none⟩), .int .i64 z] w fun e w' => e = .returned (.bool false) ∧ w' = w := by
  have c0 := h.c0
  obtain ⟨n, hn⟩ : ∃ n, n = ds.length := ⟨_, rfl⟩
  rw [← hn] at c0 hz
  clear hn h
  by_cases hzn : z < 0
  · have hz1 : ¬ (0 : Int) ≤ z := by omega
    go_enter Try.func47, Try.ntmps47
    go_wp2_with fail
    go_ret
    exact ⟨rfl, rfl⟩
  · have hz1 : (0 : Int) ≤ z := by omega
    have hz2 : ¬ z < (n : Int) := by omega
    clear hz
    go_enter Try.func47, Try.ntmps47
    go_wp2_with fail
    go_ret
    exact ⟨rfl, rfl⟩
theorem rxhas_any (h : RX k w S A xs) (z : Int) : Calls Try.prog 47 #[.pointer (some ⟨A, 0, none⟩), .int .i64 z] w fun e w' => e = .returned (.bool (tellD xs z (fun _ => true) false)) ∧ w' = w := by
  obtain ⟨AL, c, ds, h, hxs⟩ := h
  rcases ofD_cases xs z with ⟨i, x, rfl, hx⟩ | hn
  · obtain ⟨d, hd, rfl⟩ := xs_at hxs hx
    rw [tellD_yes hx]
    exact rxhas_yes h hd
  · rw [tellD_no hn]
    exact rxhas_no h z (by rw [xs_len hxs]; exact hn)
theorem rxread_any (h : RX k w S A xs) (h0 : 0 < xs.length) (z : Int) (at_ : Int) (h1 : -9223372036854775808 ≤ at_) (h2 : at_ < 9223372036854775808) (hk : k ≤ 100000) : Calls Try.prog 46 #[.pointer (some ⟨A, 0, none⟩), .int .i64 z, .int .i64 at_] w fun e w' => ∃ A' n c, e = .returned (.tuple #[.slice A' n c, .int .i64 (tellD xs z (fun x => x.readX at_) 2)]) ∧ Sl w' 1 A' n c (cells (tellD xs z (fun x => x.readL at_) [])) ∧ Below w.heap.size w w' := by
  obtain ⟨AL, c, ds, h, hxs⟩ := h
  have hl := xs_len hxs
  rcases ofD_cases xs z with ⟨i, x, rfl, hx⟩ | hn
  · obtain ⟨d, hd, rfl⟩ := xs_at hxs hx
    have hp := rxhas_yes h hd
    have hrep : Rf w d.S d.D k d.x := (h.rep i d hd).1
    have hC := (by
      obtain ⟨_, AL', cL', ls', AW', cW', ws', hg'⟩ := hrep
      exact rfread_any at_ h1 h2 hk hg' : Calls Try.prog 52 #[.pointer (some ⟨d.D, 0, none⟩), .int .i64 at_] w (RetRd9 w d.x at_))
    simp only [tellD_yes hx]
    have c0 := h.c0
    have hi := get_lt hd
    obtain ⟨g, rfl, hg⟩ := h.at_ (by omega)
    have cg := hg i d hd
    unfold Ds.ptr at cg
    have HD := Lib.hid hd
    have HX := Lib.hid hxs
    have HA := Lib.hid h
    obtain ⟨n, hn⟩ : ∃ n, n = ds.length := ⟨_, rfl⟩
    rw [← hn] at c0 hi
    have hii : (i : Int) < (n : Int) := by omega
    clear hrep hd hxs h hl hx hg hn
    go_enter Try.func46, Try.ntmps46
    go_wp2_with fail
    refine hp.mono ?_; clear hp; rintro e w1 ⟨rfl, hw1⟩
    obtain rfl : w = w1 := hw1.symm
    go_wp2_with fail
    refine hC.mono ?_; clear hC; rintro e w2 ⟨A2, n2, c2, rfl, hs2, hb2⟩
    go_wp2_with fail
    go_ret2
    exact ⟨A2, n2, c2, rfl, hs2, hb2⟩
  · have hp := rxhas_no h z (by omega)
    simp only [tellD_no hn]
    have HA := Lib.hid h
    have HX := Lib.hid hxs
    clear hn h hl hxs
    go_enter Try.func46, Try.ntmps46
    go_wp2_with fail
    refine hp.mono ?_; clear hp; rintro e w1 ⟨rfl, hw1⟩
    obtain rfl : w = w1 := hw1.symm
    go_wp2_with fail
    go_ret2
    exact ⟨none, 0, 0, rfl, Sl.nil w 1 0 (by decide), Below.refl _ _⟩
theorem rxwrite_any (h : RX k w S A xs) (h0 : 0 < xs.length) (z : Int) (at_ : Int) (A2 : Option Addr) (n2 c2 : Nat) (l : List UInt8) (h1 : -9223372036854775808 ≤ at_) (h2 : at_ < 9223372036854775808) (hk : k ≤ 100000) (hs : Sl w 1 A2 n2 c2 (cells l)) : Calls Try.prog 36 #[.pointer (some ⟨A, 0, none⟩), .int .i64 z, .int .i64 at_, .slice A2 n2 c2] w fun e w' => e = .returned (.int .i64 (tellD xs z (fun x => x.writeX at_ l) 2)) ∧ MutX (k + 1) S A (onD xs z (fun x => x.write at_ l)) w w' := by
  obtain ⟨AL, c, ds, h, hxs⟩ := h
  have hl := xs_len hxs
  rcases ofD_cases xs z with ⟨i, x, rfl, hx⟩ | hn
  · obtain ⟨d, hd, rfl⟩ := xs_at hxs hx
    have hp := rxhas_yes h hd
    have hrep : Rf w d.S d.D k d.x := (h.rep i d hd).1
    have hC := rfwrite_any at_ A2 n2 c2 l h1 h2 hk hrep hs
    simp only [tellD_yes hx, onD_yes hx]
    have c0 := h.c0
    have hi := get_lt hd
    obtain ⟨g, rfl, hg⟩ := h.at_ (by omega)
    have cg := hg i d hd
    unfold Ds.ptr at cg
    have HD := Lib.hid hd
    have HX := Lib.hid hxs
    have HA := Lib.hid h
    obtain ⟨n, hn⟩ : ∃ n, n = ds.length := ⟨_, rfl⟩
    rw [← hn] at c0 hi
    have hii : (i : Int) < (n : Int) := by omega
    clear hrep hd hxs h hl hx hg hn
    go_enter Try.func36, Try.ntmps36
    go_wp2_with fail
    refine hp.mono ?_; clear hp; rintro e w1 ⟨rfl, hw1⟩
    obtain rfl : w = w1 := hw1.symm
    go_wp2_with fail
    refine hC.mono ?_; clear hC; rintro e w2 ⟨rfl, S2, hr2, hf2, hs2⟩
    go_wp2_with fail
    go_ret
    exact ⟨rfl, HA.out.turn (layX k) (layX (k + 1)) (fun _ _ _ _ q => Rf.mono q (by omega)) HX.out HD.out hr2 hf2 hs2⟩
  · have hp := rxhas_no h z (by omega)
    simp only [tellD_no hn, onD_no hn]
    have HA := Lib.hid h
    have HX := Lib.hid hxs
    clear hn h hl hxs
    go_enter Try.func36, Try.ntmps36
    go_wp2_with fail
    refine hp.mono ?_; clear hp; rintro e w1 ⟨rfl, hw1⟩
    obtain rfl : w = w1 := hw1.symm
    go_wp2_with fail
    go_ret
    exact ⟨rfl, S, RX.mono (k := k) ⟨AL, c, ds, HA.out, HX.out⟩ (by omega), Nxt.refl _ _⟩
theorem rxrot_any (h : RX k w S A xs) (h0 : 0 < xs.length) (z : Int) (at_ off : Int) (mask : Nat) (h1 : -9223372036854775808 ≤ at_) (h2 : at_ < 9223372036854775808) (h3 : -9223372036854775808 ≤ off) (h4 : off < 9223372036854775808) (h5 : mask < 4294967296) (hk : k ≤ 100000) : Calls Try.prog 41 #[.pointer (some ⟨A, 0, none⟩), .int .i64 z, .int .i64 at_, .int .i64 off, .int .u32 (mask : Int)] w fun e w' => e = .returned (.int .i64 (tellD xs z (fun x => x.rotX at_ off (mask : Int)) 2)) ∧ MutX (k + 1) S A (onD xs z (fun x => x.rot1 at_ off (mask : Int))) w w' := by
  obtain ⟨AL, c, ds, h, hxs⟩ := h
  have hl := xs_len hxs
  rcases ofD_cases xs z with ⟨i, x, rfl, hx⟩ | hn
  · obtain ⟨d, hd, rfl⟩ := xs_at hxs hx
    have hp := rxhas_yes h hd
    have hrep : Rf w d.S d.D k d.x := (h.rep i d hd).1
    have hC := rfrot_any at_ off mask h1 h2 h3 h4 h5 hk hrep
    simp only [tellD_yes hx, onD_yes hx]
    have c0 := h.c0
    have hi := get_lt hd
    obtain ⟨g, rfl, hg⟩ := h.at_ (by omega)
    have cg := hg i d hd
    unfold Ds.ptr at cg
    have HD := Lib.hid hd
    have HX := Lib.hid hxs
    have HA := Lib.hid h
    obtain ⟨n, hn⟩ : ∃ n, n = ds.length := ⟨_, rfl⟩
    rw [← hn] at c0 hi
    have hii : (i : Int) < (n : Int) := by omega
    clear hrep hd hxs h hl hx hg hn
    go_enter Try.func41, Try.ntmps41
    go_wp2_with fail
    refine hp.mono ?_; clear hp; rintro e w1 ⟨rfl, hw1⟩
    obtain rfl : w = w1 := hw1.symm
    go_wp2_with fail
    refine hC.mono ?_; clear hC; rintro e w2 ⟨rfl, S2, hr2, hf2, hs2⟩
    go_wp2_with fail
    go_ret
    exact ⟨rfl, HA.out.turn (layX k) (layX (k + 1)) (fun _ _ _ _ q => Rf.mono q (by omega)) HX.out HD.out hr2 hf2 hs2⟩
  · have hp := rxhas_no h z (by omega)
    simp only [tellD_no hn, onD_no hn]
    have HA := Lib.hid h
    have HX := Lib.hid hxs
    clear hn h hl hxs
    go_enter Try.func41, Try.ntmps41
    go_wp2_with fail
    refine hp.mono ?_; clear hp; rintro e w1 ⟨rfl, hw1⟩
    obtain rfl : w = w1 := hw1.symm
    go_wp2_with fail
    go_ret
    exact ⟨rfl, S, RX.mono (k := k) ⟨AL, c, ds, HA.out, HX.out⟩ (by omega), Nxt.refl _ _⟩
theorem rxfail_any (h : RX k w S A xs) (h0 : 0 < xs.length) (z : Int) : Calls Try.prog 39 #[.pointer (some ⟨A, 0, none⟩), .int .i64 z] w fun e w' => e = .returned (.int .i64 (tellD xs z (fun _ => 0) 2)) ∧ MutX k S A (onD xs z (fun x => x.fail)) w w' := by
  obtain ⟨AL, c, ds, h, hxs⟩ := h
  have hl := xs_len hxs
  rcases ofD_cases xs z with ⟨i, x, rfl, hx⟩ | hn
  · obtain ⟨d, hd, rfl⟩ := xs_at hxs hx
    have hp := rxhas_yes h hd
    have hrep : Rf w d.S d.D k d.x := (h.rep i d hd).1
    have hC := rffail_any hrep
    simp only [tellD_yes hx, onD_yes hx]
    have c0 := h.c0
    have hi := get_lt hd
    obtain ⟨g, rfl, hg⟩ := h.at_ (by omega)
    have cg := hg i d hd
    unfold Ds.ptr at cg
    have HD := Lib.hid hd
    have HX := Lib.hid hxs
    have HA := Lib.hid h
    obtain ⟨n, hn⟩ : ∃ n, n = ds.length := ⟨_, rfl⟩
    rw [← hn] at c0 hi
    have hii : (i : Int) < (n : Int) := by omega
    clear hrep hd hxs h hl hx hg hn
    go_enter Try.func39, Try.ntmps39
    go_wp2_with fail
    refine hp.mono ?_; clear hp; rintro e w1 ⟨rfl, hw1⟩
    obtain rfl : w = w1 := hw1.symm
    go_wp2_with fail
    refine hC.mono ?_; clear hC; rintro e w2 ⟨rfl, S2, hr2, hf2, hs2⟩
    go_wp2_with fail
    go_ret
    exact ⟨rfl, HA.out.turn (layX k) (layX k) (fun _ _ _ _ q => Rf.mono q (by omega)) HX.out HD.out hr2 hf2 hs2⟩
  · have hp := rxhas_no h z (by omega)
    simp only [tellD_no hn, onD_no hn]
    have HA := Lib.hid h
    have HX := Lib.hid hxs
    clear hn h hl hxs
    go_enter Try.func39, Try.ntmps39
    go_wp2_with fail
    refine hp.mono ?_; clear hp; rintro e w1 ⟨rfl, hw1⟩
    obtain rfl : w = w1 := hw1.symm
    go_wp2_with fail
    go_ret
    exact ⟨rfl, S, RX.mono (k := k) ⟨AL, c, ds, HA.out, HX.out⟩ (by omega), Nxt.refl _ _⟩
theorem rxreplace_any (h : RX k w S A xs) (h0 : 0 < xs.length) (z : Int) : Calls Try.prog 40 #[.pointer (some ⟨A, 0, none⟩), .int .i64 z] w fun e w' => e = .returned (.int .i64 (tellD xs z (fun _ => 0) 2)) ∧ MutX k S A (onD xs z (fun x => x.replace)) w w' := by
  obtain ⟨AL, c, ds, h, hxs⟩ := h
  have hl := xs_len hxs
  rcases ofD_cases xs z with ⟨i, x, rfl, hx⟩ | hn
  · obtain ⟨d, hd, rfl⟩ := xs_at hxs hx
    have hp := rxhas_yes h hd
    have hrep : Rf w d.S d.D k d.x := (h.rep i d hd).1
    have hC := rfreplace_any hrep
    simp only [tellD_yes hx, onD_yes hx]
    have c0 := h.c0
    have hi := get_lt hd
    obtain ⟨g, rfl, hg⟩ := h.at_ (by omega)
    have cg := hg i d hd
    unfold Ds.ptr at cg
    have HD := Lib.hid hd
    have HX := Lib.hid hxs
    have HA := Lib.hid h
    obtain ⟨n, hn⟩ : ∃ n, n = ds.length := ⟨_, rfl⟩
    rw [← hn] at c0 hi
    have hii : (i : Int) < (n : Int) := by omega
    clear hrep hd hxs h hl hx hg hn
    go_enter Try.func40, Try.ntmps40
    go_wp2_with fail
    refine hp.mono ?_; clear hp; rintro e w1 ⟨rfl, hw1⟩
    obtain rfl : w = w1 := hw1.symm
    go_wp2_with fail
    refine hC.mono ?_; clear hC; rintro e w2 ⟨rfl, S2, hr2, hf2, hs2⟩
    go_wp2_with fail
    go_ret
    exact ⟨rfl, HA.out.turn (layX k) (layX k) (fun _ _ _ _ q => Rf.mono q (by omega)) HX.out HD.out hr2 hf2 hs2⟩
  · have hp := rxhas_no h z (by omega)
    simp only [tellD_no hn, onD_no hn]
    have HA := Lib.hid h
    have HX := Lib.hid hxs
    clear hn h hl hxs
    go_enter Try.func40, Try.ntmps40
    go_wp2_with fail
    refine hp.mono ?_; clear hp; rintro e w1 ⟨rfl, hw1⟩
    obtain rfl : w = w1 := hw1.symm
    go_wp2_with fail
    go_ret
    exact ⟨rfl, S, RX.mono (k := k) ⟨AL, c, ds, HA.out, HX.out⟩ (by omega), Nxt.refl _ _⟩
theorem rxalive_any (h : RX k w S A xs) (h0 : 0 < xs.length) (hx255 : xs.length ≤ 255) : Calls Try.prog 13 #[.pointer (some ⟨A, 0, none⟩)] w fun e w' => e = .returned (.int .i64 (aliveN xs xs.length : Nat)) ∧ Below w.heap.size w w' := by
  obtain ⟨AL, c, ds, h, hxs⟩ := h
  have hl := xs_len hxs
  obtain ⟨g, rfl, hg⟩ := h.at_ (by omega)
  have c0 := h.c0
  rw [hl] at c0
  have H0 := Lib.hid h
  have HG := Lib.hid hg
  have HX := Lib.hid hxs
  obtain ⟨n, hn⟩ : ∃ n, n = xs.length := ⟨_, rfl⟩
  rw [← hn] at c0 hx255 ⊢
  obtain ⟨r, hr⟩ : ∃ r, r = aliveN xs n := ⟨_, rfl⟩
  rw [← hr]
  have HR := Lib.hid hr
  have HN := Lib.hid hn
  clear hn hr h hl h0 hg hxs
  go_enter Try.func13, Try.ntmps13
  go_wp2_with fail
  go_loopw [3, 4] (fun v i wr => ∃ (t y : Nat), t ≤ n ∧ y = aliveN xs t ∧ y ≤ t ∧ i = .int .i64 (t : Int) ∧ v = .int .i64 (y : Int) ∧ wr = w) (fun _ i _ => n - (intOf i).toNat)
  case atStart => exact ⟨0, 0, by omega, by simp [aliveN, goneA], by omega, rfl, rfl, rfl⟩
  case round =>
    obtain ⟨t, y, ht, hy, hyt, rfl, rfl, hw⟩ := hrel
    obtain rfl : w = wr := hw.symm
    by_cases hlt : t < n
    · have hti : (t : Int) < (n : Int) := by omega
      have hx : xs[t]? = some (xs[t]'(by have := HN.out; omega)) := List.getElem?_eq_getElem _
      obtain ⟨x, hxe⟩ : ∃ x, x = xs[t]'(by have := HN.out; omega) := ⟨_, rfl⟩
      rw [← hxe] at hx
      obtain ⟨d, hd, rfl⟩ := xs_at HX.out hx
      have cg := HG.out t d hd
      unfold Ds.ptr at cg
      obtain ⟨_, AL', cL', ls', AW', cW', ws', hg'⟩ : Rf w d.S d.D k d.x := (H0.out.rep t d hd).1
      have c3 := hg'.c3
      have hnx := aliveN_next hx
      rw [← hy] at hnx
      have HY := Lib.hid hy
      obtain ⟨b, hb⟩ : ∃ b, b = d.x.gone := ⟨_, rfl⟩
      rw [← hb] at c3 hnx
      clear hb hxe hx hd hg' hy
      cases b
      · rw [if_pos rfl] at hnx
        have HNX := Lib.hid hnx
        clear hnx
        go_wp2_with fail
        go_roundw
        case rel => exact ⟨t + 1, y + 1, by omega, HNX.out.symm, by omega, by go_num, by go_num, by first | rfl | trivial⟩
        case measure => simp [intOf]; omega
      · rw [if_neg (by decide)] at hnx
        have HNX := Lib.hid hnx
        clear hnx
        go_wp2_with fail
        go_roundw
        case rel => exact ⟨t + 1, y, by omega, HNX.out.symm, by omega, by go_num, rfl, by first | rfl | trivial⟩
        case measure => simp [intOf]; omega
    · obtain rfl : t = n := by omega
      obtain rfl : r = y := by rw [HR.out, hy]
      have hti : ¬ (t : Int) < (t : Int) := by omega
      clear hy
      go_wp2_with fail
      go_ret
      exact ⟨rfl, Below.refl _ _⟩
theorem rxflush_any (h : RX k w S A xs) (h0 : 0 < xs.length) (hx255 : xs.length ≤ 255) (hk : k ≤ 100000) : Calls Try.prog 37 #[.pointer (some ⟨A, 0, none⟩)] w fun e w' => e = .returned (.int .i64 (flushN xs xs.length : Nat)) ∧ MutX k S A (flushS xs xs.length) w w' := by
  have H0 := Lib.hid h
  obtain ⟨n, hn⟩ : ∃ n, n = xs.length := ⟨_, rfl⟩
  rw [← hn] at hx255 h0 ⊢
  obtain ⟨r, hr⟩ : ∃ r, r = flushN xs n := ⟨_, rfl⟩
  rw [← hr]
  have HR := Lib.hid hr
  have HN := Lib.hid hn
  clear hn hr h
  go_enter Try.func37, Try.ntmps37
  go_wp2_with fail
  go_loopw [3, 4] (fun v i wr => ∃ (t y : Nat) (S' : Nat → Prop), t ≤ n ∧ y = flushN xs t ∧ y ≤ t ∧ i = .int .i64 (t : Int) ∧ v = .int .i64 (y : Int) ∧ RX k wr S' A (flushS xs t) ∧ Nxt S S' w wr) (fun _ i _ => n - (intOf i).toNat)
  case atStart => exact ⟨0, 0, S, by omega, by simp [flushN, flushA], by omega, rfl, rfl, by rw [flushS, upTo_zero]; exact H0.out, Nxt.refl _ _⟩
  case round =>
    obtain ⟨t, y, S', ht, hy, hyt, rfl, rfl, ha, hnx⟩ := hrel
    have HNX := Lib.hid hnx
    have HAR := Lib.hid ha
    obtain ⟨AL, c, ds, ha, hxs⟩ := ha
    have hl := xs_len hxs
    rw [flushS, upTo_len, ← HN.out] at hl
    have c0 := ha.c0
    rw [hl] at c0
    obtain ⟨g, rfl, hg⟩ := ha.at_ (by omega)
    by_cases hlt : t < n
    · have hti : (t : Int) < (n : Int) := by omega
      have hx : xs[t]? = some (xs[t]'(by have := HN.out; omega)) := List.getElem?_eq_getElem _
      obtain ⟨x, hxe⟩ : ∃ x, x = xs[t]'(by have := HN.out; omega) := ⟨_, rfl⟩
      rw [← hxe] at hx
      obtain ⟨d, hd, hdx⟩ := xs_at hxs (upTo_here hx)
      have cg := hg t d hd
      unfold Ds.ptr at cg
      have hrep : Rf wr d.S d.D k d.x := (ha.rep t d hd).1
      have hC := rfflush_any hk hrep
      rw [hdx] at hC
      have hcn := flushN_next hx
      rw [← hy] at hcn
      have HY := Lib.hid hy
      have HA := Lib.hid ha
      have HXS := Lib.hid hxs
      have HD := Lib.hid hd
      have HX := Lib.hid hx
      obtain ⟨v, hv⟩ : ∃ v, v = x.flushX := ⟨_, rfl⟩
      rw [← hv] at hC hcn
      clear hv ha hxs hd hx hnx hg hxe hdx hrep hl hy
      go_wp2_with fail
      refine hC.mono ?_; clear hC; rintro e w2 ⟨rfl, S2, hr2, hf2, hs2⟩
      obtain ⟨S3, har, hn3⟩ := HA.out.turn (layX k) (layX k) (fun _ _ _ _ q => q) HXS.out HD.out hr2 hf2 hs2
      have HM := Lib.hid (show RX k w2 S3 A (flushS xs (t + 1)) by
        rw [flushS, upTo_set (F := fun _ x => x.flush1) HX.out] at har
        exact har)
      have HN3 := Lib.hid (HNX.out.trans hn3)
      clear hr2 hf2 hs2 har hn3 c0 cg
      by_cases hv0 : v = 0
      · subst hv0
        rw [if_pos rfl] at hcn
        have HCN := Lib.hid hcn
        clear hcn
        go_wp2_with fail
        go_roundw
        case rel => exact ⟨t + 1, y + 1, S3, by omega, HCN.out.symm, by omega, by go_num, by go_num, HM.out, HN3.out⟩
        case measure => simp [intOf]; omega
      · rw [if_neg hv0] at hcn
        have HCN := Lib.hid hcn
        clear hcn
        go_wp2_with fail
        go_roundw
        case rel => exact ⟨t + 1, y, S3, by omega, HCN.out.symm, by omega, by go_num, rfl, HM.out, HN3.out⟩
        case measure => simp [intOf]; omega
    · obtain rfl : t = n := by omega
      obtain rfl : r = y := by rw [HR.out, hy]
      have hti : ¬ (t : Int) < (t : Int) := by omega
      have HM := Lib.hid (show MutX k S A (flushS xs t) w wr from ⟨S', HAR.out, HNX.out⟩)
      clear hy ha hxs hg hnx hl
      go_wp2_with fail
      go_ret
      exact ⟨rfl, HM.out⟩
end
end Go.Proofs.Ytjjoeaneaibklaa

/-
  The statements' functions CrcSums, CrcCarries, CrcFar, CrcJoins return true, whatever their arguments. Condition: the table reads as the row lists it ('Nt').
-/
import Derived.Test.YtpmjpagmddjjaaaDoorCrcf
import Derived.Test.YtpmjpagmddjjaaaDoorCrcg
namespace Go.Proofs.YtpmjpagmddjjaaaDoor
open Go.RowKit
set_option linter.unusedVariables false

set_option maxHeartbeats 1000000 in
set_option maxRecDepth 20000 in
theorem crcSums_walk (A : Option Addr) (n cp : Nat) (l : List UInt8) (c : W32) (w : World) (hs : Sl w 1 A n cp (cells l)) (h : Nt w) :
    Calls Tryd.prog 3 #[.slice A n cp, .int .u32 (c.toNat : Int)] w (SaysTrue w) := by
  have hn := hs.lim
  unfold maxLen at hn
  have H := Lib.hid h; clear h
  have Hs := Lib.hid hs; clear hs
  by_cases hbig : n > 3000
  · have hb' : (n : Int) > 3000 := by omega
    go_enter Tryd.func3, Tryd.ntmps3
    go_wp2_with fail
    refine (summed_any _ H.out).mono ?_; rintro e w1 ⟨rfl, hq⟩
    have hb1 : Below w.heap.size w w1 := hq
    clear hq
    go_wp2_with fail
    go_ret
    exact ⟨rfl, hb1⟩
  · have hb' : ¬ (n : Int) > 3000 := by omega
    go_enter Tryd.func3, Tryd.ntmps3
    go_wp2_with fail
    refine (sum_any A n cp l _ Hs.out H.out).mono ?_; rintro e w1 ⟨rfl, hq⟩
    have hb1 : Below w.heap.size w w1 := hq
    clear hq
    go_wp2_with fail
    refine (rsum_any A n cp l _ (Hs.out.below hb1 (Nat.le_refl _))).mono ?_; rintro e w' ⟨rfl, rfl⟩
    go_wp2_with fail
    refine (more_any A n cp l c _ (Hs.out.below hb1 (Nat.le_refl _)) (H.out.keep hb1)).mono ?_; rintro e w2 ⟨rfl, hq⟩
    have hb2 : Below w.heap.size w w2 := hb1.trans (hq.mono hb1.size)
    clear hq
    go_wp2_with fail
    refine (rmore_any A n cp l c _ (Hs.out.below hb2 (Nat.le_refl _))).mono ?_; rintro e w' ⟨rfl, rfl⟩
    go_wp2_with fail
    refine (summed_any _ (H.out.keep hb2)).mono ?_; rintro e w3 ⟨rfl, hq⟩
    have hb3 : Below w.heap.size w w3 := hb2.trans (hq.mono hb2.size)
    clear hq
    go_wp2_with fail
    go_ret
    exact ⟨rfl, hb3⟩

set_option maxHeartbeats 1000000 in
set_option maxRecDepth 20000 in
theorem crcCarries_walk (a b : W32) (m : Int) (h1 : -9223372036854775808 ≤ m) (h2 : m < 9223372036854775808) (A : Option Addr) (n cp : Nat) (l : List UInt8) (w : World) (hs : Sl w 1 A n cp (cells l)) (h : Nt w) :
    Calls Tryd.prog 4 #[.int .u32 (a.toNat : Int), .int .u32 (b.toNat : Int), .int .i64 m, .slice A n cp] w (SaysTrue w) := by
  have hn := hs.lim
  unfold maxLen at hn
  have H := Lib.hid h; clear h
  have Hs := Lib.hid hs; clear hs
  by_cases hm : m > 3000
  · have hd : decide (m > 3000) = true := by simpa using hm
    go_enter Tryd.func4, Tryd.ntmps4
    go_wp2_with fail
    refine (summed_any _ H.out).mono ?_; rintro e w1 ⟨rfl, hq⟩
    have hb1 : Below w.heap.size w w1 := hq
    clear hq
    go_wp2_with fail
    go_ret
    exact ⟨rfl, hb1⟩
  have hm' : m ≤ 3000 := by omega
  have hd : decide (m > 3000) = false := by simpa using hm'
  have h2' := h2
  by_cases hbig : n > 3000
  · have hb' : (n : Int) > 3000 := by omega
    go_enter Tryd.func4, Tryd.ntmps4
    go_wp2_with fail
    refine (summed_any _ H.out).mono ?_; rintro e w1 ⟨rfl, hq⟩
    have hb1 : Below w.heap.size w w1 := hq
    clear hq
    go_wp2_with fail
    go_ret
    exact ⟨rfl, hb1⟩
  · have hb' : ¬ (n : Int) > 3000 := by omega
    go_enter Tryd.func4, Tryd.ntmps4
    go_wp2_with fail
    refine (zeros_any a m _ h1 h2 H.out).mono ?_; rintro e w1 ⟨rfl, hq⟩
    have hb1 : Below w.heap.size w w1 := hq
    clear hq
    go_wp2_with fail
    refine (rzeros_any a m hm' _).mono ?_; rintro e w2 ⟨rfl, hq⟩
    have hb2 : Below w.heap.size w w2 := hb1.trans (hq.mono hb1.size)
    clear hq
    go_wp2_with fail
    refine (join_any a b m _ h1 h2 (H.out.keep hb2)).mono ?_; rintro e w3 ⟨rfl, hq⟩
    have hb3 : Below w.heap.size w w3 := hb2.trans (hq.mono hb2.size)
    clear hq
    go_wp2_with fail
    refine (rjoin_any a b m hm' _).mono ?_; rintro e w4 ⟨rfl, hq⟩
    have hb4 : Below w.heap.size w w4 := hb3.trans (hq.mono hb3.size)
    clear hq
    go_wp2_with fail
    refine (turned_any a A n cp l m _ (Hs.out.below hb4 (Nat.le_refl _)) h1 h2 (H.out.keep hb4)).mono ?_; rintro e w5 ⟨rfl, hq⟩
    have hb5 : Below w.heap.size w w5 := hb4.trans (hq.mono hb4.size)
    clear hq
    go_wp2_with fail
    refine (rchanged_any a A n cp l m hm' _ (Hs.out.below hb5 (Nat.le_refl _))).mono ?_; rintro e w6 ⟨rfl, hq⟩
    have hb6 : Below w.heap.size w w6 := hb5.trans (hq.mono hb5.size)
    clear hq
    go_wp2_with fail
    refine (summed_any _ (H.out.keep hb6)).mono ?_; rintro e w7 ⟨rfl, hq⟩
    have hb7 : Below w.heap.size w w7 := hb6.trans (hq.mono hb6.size)
    clear hq
    go_wp2_with fail
    go_ret
    exact ⟨rfl, hb7⟩

set_option maxHeartbeats 1000000 in
set_option maxRecDepth 20000 in
theorem crcFar_walk (c : W32) (a b : Int) (ha1 : -9223372036854775808 ≤ a) (ha2 : a < 9223372036854775808) (hb1' : -9223372036854775808 ≤ b) (hb2' : b < 9223372036854775808) (w : World) (h : Nt w) :
    Calls Tryd.prog 7 #[.int .u32 (c.toNat : Int), .int .i64 a, .int .i64 b] w (SaysTrue w) := by
  have H := Lib.hid h; clear h
  by_cases k1 : a < 0
  · have d1 : decide (a < 0) = true := by simpa using k1
    go_enter Tryd.func7, Tryd.ntmps7
    go_wp2_with fail
    refine (summed_any _ H.out).mono ?_; rintro e w1 ⟨rfl, hq⟩
    have hb1 : Below w.heap.size w w1 := hq
    clear hq
    go_wp2_with fail
    go_ret
    exact ⟨rfl, hb1⟩
  have d1 : decide (a < 0) = false := by simpa using k1
  by_cases k2 : b < 0
  · have d2 : decide (b < 0) = true := by simpa using k2
    go_enter Tryd.func7, Tryd.ntmps7
    go_wp2_with fail
    refine (summed_any _ H.out).mono ?_; rintro e w1 ⟨rfl, hq⟩
    have hb1 : Below w.heap.size w w1 := hq
    clear hq
    go_wp2_with fail
    go_ret
    exact ⟨rfl, hb1⟩
  have d2 : decide (b < 0) = false := by simpa using k2
  by_cases k3 : a > 1099511627776
  · have d3 : decide (a > 1099511627776) = true := by simpa using k3
    go_enter Tryd.func7, Tryd.ntmps7
    go_wp2_with fail
    refine (summed_any _ H.out).mono ?_; rintro e w1 ⟨rfl, hq⟩
    have hb1 : Below w.heap.size w w1 := hq
    clear hq
    go_wp2_with fail
    go_ret
    exact ⟨rfl, hb1⟩
  have d3 : decide (a > 1099511627776) = false := by simpa using k3
  by_cases k4 : b > 1099511627776
  · have d4 : decide (b > 1099511627776) = true := by simpa using k4
    go_enter Tryd.func7, Tryd.ntmps7
    go_wp2_with fail
    refine (summed_any _ H.out).mono ?_; rintro e w1 ⟨rfl, hq⟩
    have hb1 : Below w.heap.size w w1 := hq
    clear hq
    go_wp2_with fail
    go_ret
    exact ⟨rfl, hb1⟩
  have d4 : decide (b > 1099511627776) = false := by simpa using k4
  obtain ⟨p, rfl⟩ := Int.eq_ofNat_of_zero_le (show 0 ≤ a by omega)
  obtain ⟨q, rfl⟩ := Int.eq_ofNat_of_zero_le (show 0 ≤ b by omega)
  have e1 := Lib.hid (show zeros c ((p : Int) + (q : Int)).toNat = zeros (zeros c p) q by rw [zeros_zeros]; congr 1)
  have e2 := Lib.hid (show joinW c 0 ((p : Int) + (q : Int)).toNat = joinW (joinW c 0 p) 0 q by rw [join_join]; congr 1)
  have k5 : (p : Int) + (q : Int) < 9223372036854775808 := by omega
  go_enter Tryd.func7, Tryd.ntmps7
  go_wp2_with fail
  refine (zeros_any c p _ (by omega) ha2 H.out).mono ?_; rintro e w1 ⟨rfl, hq⟩
  have hb1 : Below w.heap.size w w1 := hq
  clear hq
  rw [Int.toNat_natCast]
  go_wp2_with fail
  refine (zeros_any (zeros c p) q _ (by omega) hb2' (H.out.keep hb1)).mono ?_; rintro e w2 ⟨rfl, hq⟩
  have hb2 : Below w.heap.size w w2 := hb1.trans (hq.mono hb1.size)
  clear hq
  rw [Int.toNat_natCast]
  go_wp2_with fail
  refine (zeros_any c (p + q) _ (by omega) k5 (H.out.keep hb2)).mono ?_; rintro e w3 ⟨rfl, hq⟩
  have hb3 : Below w.heap.size w w3 := hb2.trans (hq.mono hb2.size)
  clear hq
  rw [e1.out]
  go_wp2_with fail
  refine (join_any c 0 p _ (by omega) ha2 (H.out.keep hb3)).mono ?_; rintro e w4 ⟨rfl, hq⟩
  have hb4 : Below w.heap.size w w4 := hb3.trans (hq.mono hb3.size)
  clear hq
  rw [Int.toNat_natCast]
  go_wp2_with fail
  refine (join_any (joinW c 0 p) 0 q _ (by omega) hb2' (H.out.keep hb4)).mono ?_; rintro e w5 ⟨rfl, hq⟩
  have hb5 : Below w.heap.size w w5 := hb4.trans (hq.mono hb4.size)
  clear hq
  rw [Int.toNat_natCast]
  go_wp2_with fail
  refine (join_any c 0 (p + q) _ (by omega) k5 (H.out.keep hb5)).mono ?_; rintro e w6 ⟨rfl, hq⟩
  have hb6 : Below w.heap.size w w6 := hb5.trans (hq.mono hb5.size)
  clear hq
  rw [e2.out]
  go_wp2_with fail
  refine (summed_any _ (H.out.keep hb6)).mono ?_; rintro e w7 ⟨rfl, hq⟩
  have hb7 : Below w.heap.size w w7 := hb6.trans (hq.mono hb6.size)
  clear hq
  go_wp2_with fail
  go_ret
  exact ⟨rfl, hb7⟩

set_option maxHeartbeats 1000000 in
set_option maxRecDepth 20000 in
theorem crcJoins_walk (A : Option Addr) (n cp : Nat) (l : List UInt8) (B : Option Addr) (m cq : Nat) (r : List UInt8) (w : World) (hs : Sl w 1 A n cp (cells l)) (hr : Sl w 1 B m cq (cells r)) (h : Nt w) :
    Calls Tryd.prog 5 #[.slice A n cp, .slice B m cq] w (SaysTrue w) := by
  have hn := hs.lim
  have hm := hr.lim
  unfold maxLen at hn hm
  have hrl := hr.len
  rw [cells_length, Nat.mul_one] at hrl
  have H := Lib.hid h; clear h
  have Hs := Lib.hid hs; clear hs
  have Hr := Lib.hid hr; clear hr
  by_cases hbig : n > 3000
  · have hd : decide ((n : Int) > 3000) = true := by simp; omega
    clear hrl
    go_enter Tryd.func5, Tryd.ntmps5
    go_wp2_with fail
    refine (summed_any _ H.out).mono ?_; rintro e w1 ⟨rfl, hq⟩
    have hb1 : Below w.heap.size w w1 := hq
    clear hq
    go_wp2_with fail
    go_ret
    exact ⟨rfl, hb1⟩
  have hd : decide ((n : Int) > 3000) = false := by simp; omega
  by_cases hbig2 : m > 3000
  · have hb' : (m : Int) > 3000 := by omega
    clear hrl
    go_enter Tryd.func5, Tryd.ntmps5
    go_wp2_with fail
    refine (summed_any _ H.out).mono ?_; rintro e w1 ⟨rfl, hq⟩
    have hb1 : Below w.heap.size w w1 := hq
    clear hq
    go_wp2_with fail
    go_ret
    exact ⟨rfl, hb1⟩
  have hb' : ¬ (m : Int) > 3000 := by omega
  have e1 := Lib.hid (show joinW (more 0 l) (more 0 r) (m : Int).toNat = more 0 (l ++ r) by rw [Int.toNat_natCast, ← hrl, join_more])
  have e2 := Lib.hid (more_more l r)
  have e3 := Lib.hid (show joinW (more 0 l) 0 (0 : Int).toNat = more 0 l from join_none _)
  clear hrl
  go_enter Tryd.func5, Tryd.ntmps5
  go_wp2_with (at_builtin; refine wpList_append_b (B := w.heap.size) rfl (.tmp 16) (.tmp 17) rfl rfl (Own.full (Sl.nil _ _ _ (by decide))) (Nat.le_refl _) A n cp l rfl Hs.out ?c3 ?c4)
  case c3 => omega
  intro A1 c1 w1 ho1 hb1
  have hz1 := hb1.size
  go_wp2_with (at_builtin; refine wpList_append_b (B := w.heap.size) rfl (.tmp 18) (.tmp 19) rfl rfl ho1 hz1 B m cq r rfl (Hr.out.below hb1 (Nat.le_refl _)) ?d3 ?d4)
  case d3 => omega
  intro A2 c2 w2 ho2 hq
  have hb2 : Below w.heap.size w w2 := hb1.trans hq
  have Hw := Lib.hid (show Sl w2 1 A2 (n + m) c2 (cells (l ++ r)) by rw [cells_append]; simpa using ho2.sl)
  clear hq ho2 ho1
  go_wp2_with fail
  refine (sum_any A2 (n + m) c2 (l ++ r) _ Hw.out (H.out.keep hb2)).mono ?_; rintro e w3 ⟨rfl, hq⟩
  have hb3 : Below w.heap.size w w3 := hb2.trans (hq.mono hb2.size)
  clear hq
  go_wp2_with fail
  refine (sum_any A n cp l _ (Hs.out.below hb3 (Nat.le_refl _)) (H.out.keep hb3)).mono ?_; rintro e w4 ⟨rfl, hq⟩
  have hb4 : Below w.heap.size w w4 := hb3.trans (hq.mono hb3.size)
  clear hq
  go_wp2_with fail
  refine (sum_any B m cq r _ (Hr.out.below hb4 (Nat.le_refl _)) (H.out.keep hb4)).mono ?_; rintro e w5 ⟨rfl, hq⟩
  have hb5 : Below w.heap.size w w5 := hb4.trans (hq.mono hb4.size)
  clear hq
  go_wp2_with fail
  refine (join_any (more 0 l) (more 0 r) m _ (by omega) (by omega) (H.out.keep hb5)).mono ?_; rintro e w6 ⟨rfl, hq⟩
  have hb6 : Below w.heap.size w w6 := hb5.trans (hq.mono hb5.size)
  clear hq
  rw [e1.out]
  go_wp2_with fail
  refine (sum_any A n cp l _ (Hs.out.below hb6 (Nat.le_refl _)) (H.out.keep hb6)).mono ?_; rintro e w7 ⟨rfl, hq⟩
  have hb7 : Below w.heap.size w w7 := hb6.trans (hq.mono hb6.size)
  clear hq
  go_wp2_with fail
  refine (more_any B m cq r (more 0 l) _ (Hr.out.below hb7 (Nat.le_refl _)) (H.out.keep hb7)).mono ?_; rintro e w8 ⟨rfl, hq⟩
  have hb8 : Below w.heap.size w w8 := hb7.trans (hq.mono hb7.size)
  clear hq
  rw [e2.out]
  go_wp2_with fail
  refine (sum_any A n cp l _ (Hs.out.below hb8 (Nat.le_refl _)) (H.out.keep hb8)).mono ?_; rintro e w9 ⟨rfl, hq⟩
  have hb9 : Below w.heap.size w w9 := hb8.trans (hq.mono hb8.size)
  clear hq
  go_wp2_with fail
  refine (join_any (more 0 l) 0 0 _ (by decide) (by decide) (H.out.keep hb9)).mono ?_; rintro e w10 ⟨rfl, hq⟩
  have hb10 : Below w.heap.size w w10 := hb9.trans (hq.mono hb9.size)
  clear hq
  rw [e3.out]
  go_wp2_with fail
  refine (sum_any A n cp l _ (Hs.out.below hb10 (Nat.le_refl _)) (H.out.keep hb10)).mono ?_; rintro e w11 ⟨rfl, hq⟩
  have hb11 : Below w.heap.size w w11 := hb10.trans (hq.mono hb10.size)
  clear hq
  go_wp2_with fail
  refine (summed_any _ (H.out.keep hb11)).mono ?_; rintro e w12 ⟨rfl, hq⟩
  have hb12 : Below w.heap.size w w12 := hb11.trans (hq.mono hb11.size)
  clear hq
  go_wp2_with fail
  go_ret
  exact ⟨rfl, hb12⟩
end Go.Proofs.YtpmjpagmddjjaaaDoor

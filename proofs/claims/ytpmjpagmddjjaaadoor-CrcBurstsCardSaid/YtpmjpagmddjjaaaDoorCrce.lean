/-
  Contracts of package crc's Sum, More, Zeros, Join, Turned. Condition: the table reads as the row lists it ('Nt').
-/
import Derived.Test.YtpmjpagmddjjaaaDoorCrcd
namespace Go.Proofs.YtpmjpagmddjjaaaDoor
open Go.RowKit
set_option linter.unusedVariables false

theorem ret_z {z : Int} {b : W32} (h : z = (b.toNat : Int)) : Ending.returned (.int .u32 z) = .returned (.int .u32 (b.toNat : Int)) := by rw [h]

theorem through_at (A : Option Addr) (n cp : Nat) (l : List UInt8) (z : Int) (c : W32) (hz : z = (c.toNat : Int)) (w : World) (hs : Sl w 1 A n cp (cells l)) (h : Nt w) :
    Calls Tryd.prog 20 #[.int .u32 z, .slice A n cp] w fun e w' => e = .returned (.int .u32 ((reg c l).toNat : Int)) ∧ Below w.heap.size w w' := by
  subst hz
  exact through_any A n cp l c w hs h

set_option maxHeartbeats 400000 in
set_option maxRecDepth 20000 in
theorem more_any (A : Option Addr) (n cp : Nat) (l : List UInt8) (c : W32) (w : World) (hs : Sl w 1 A n cp (cells l)) (h : Nt w) :
    Calls Tryd.prog 12 #[.int .u32 (c.toNat : Int), .slice A n cp] w fun e w' => e = .returned (.int .u32 ((more c l).toNat : Int)) ∧ Below w.heap.size w w' := by
  have Hs := Lib.hid hs; clear hs
  have H := Lib.hid h; clear h
  go_enter Tryd.func12, Tryd.ntmps12
  go_wp2_with fail
  refine (through_at A n cp l _ (~~~c) (max_w c) _ Hs.out H.out).mono ?_; rintro e w1 ⟨rfl, hb1⟩
  go_wp2_with fail
  go_ret
  exact ⟨ret_z (max_w _), hb1⟩

set_option maxHeartbeats 400000 in
set_option maxRecDepth 20000 in
theorem sum_any (A : Option Addr) (n cp : Nat) (l : List UInt8) (w : World) (hs : Sl w 1 A n cp (cells l)) (h : Nt w) :
    Calls Tryd.prog 10 #[.slice A n cp] w fun e w' => e = .returned (.int .u32 ((more 0 l).toNat : Int)) ∧ Below w.heap.size w w' := by
  have Hs := Lib.hid hs; clear hs
  have H := Lib.hid h; clear h
  go_enter Tryd.func10, Tryd.ntmps10
  go_wp2_with fail
  refine (more_any A n cp l 0 _ Hs.out H.out).mono ?_; rintro e w1 ⟨rfl, hb1⟩
  go_wp2_with fail
  go_ret
  exact ⟨rfl, hb1⟩

set_option maxHeartbeats 400000 in
set_option maxRecDepth 20000 in
theorem zeros_any (c : W32) (n : Int) (w : World) (h1 : -9223372036854775808 ≤ n) (h2 : n < 9223372036854775808) (h : Nt w) :
    Calls Tryd.prog 14 #[.int .u32 (c.toNat : Int), .int .i64 n] w fun e w' => e = .returned (.int .u32 ((zeros c n.toNat).toNat : Int)) ∧ Below w.heap.size w w' := by
  have H := Lib.hid h; clear h
  go_enter Tryd.func14, Tryd.ntmps14
  go_wp2_with fail
  refine (behind_any n h1 h2 _ (~~~c) (max_w c) _ H.out).mono ?_; rintro e w1 ⟨rfl, hb1⟩
  go_wp2_with fail
  go_ret
  exact ⟨ret_z (max_w _), hb1⟩

set_option maxHeartbeats 400000 in
set_option maxRecDepth 20000 in
theorem join_any (a b : W32) (n : Int) (w : World) (h1 : -9223372036854775808 ≤ n) (h2 : n < 9223372036854775808) (h : Nt w) :
    Calls Tryd.prog 16 #[.int .u32 (a.toNat : Int), .int .u32 (b.toNat : Int), .int .i64 n] w fun e w' => e = .returned (.int .u32 ((joinW a b n.toNat).toNat : Int)) ∧ Below w.heap.size w w' := by
  have H := Lib.hid h; clear h
  go_enter Tryd.func16, Tryd.ntmps16
  go_wp2_with fail
  refine (behind_any n h1 h2 _ a rfl _ H.out).mono ?_; rintro e w1 ⟨rfl, hb1⟩
  go_wp2_with fail
  go_ret
  exact ⟨ret_z (xor_w _ _), hb1⟩

set_option maxHeartbeats 400000 in
set_option maxRecDepth 20000 in
theorem turned_any (c : W32) (A : Option Addr) (n cp : Nat) (l : List UInt8) (k : Int) (w : World) (hs : Sl w 1 A n cp (cells l)) (h1 : -9223372036854775808 ≤ k) (h2 : k < 9223372036854775808) (h : Nt w) :
    Calls Tryd.prog 18 #[.int .u32 (c.toNat : Int), .slice A n cp, .int .i64 k] w fun e w' => e = .returned (.int .u32 ((turnedW c l k.toNat).toNat : Int)) ∧ Below w.heap.size w w' := by
  have Hs := Lib.hid hs; clear hs
  have H := Lib.hid h; clear h
  go_enter Tryd.func18, Tryd.ntmps18
  go_wp2_with fail
  refine (through_at A n cp l _ 0 rfl _ Hs.out H.out).mono ?_; rintro e w1 ⟨rfl, hb1⟩
  go_wp2_with fail
  refine (behind_any k h1 h2 _ (reg 0 l) rfl _ (H.out.keep hb1)).mono ?_; rintro e w2 ⟨rfl, hb2⟩
  go_wp2_with fail
  go_ret
  exact ⟨ret_z (xor_w _ _), hb1.trans (hb2.mono hb1.size)⟩
end Go.Proofs.YtpmjpagmddjjaaaDoor

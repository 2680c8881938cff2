/-
  The contract of the statements' own examples ('read'): they hold.
-/
import Derived.Test.YtddcpjblahonhaaNumj
import Derived.Test.YtddcpjblahonhaaNumd
namespace Go.Proofs.Ytddcpjblahonhaa
open Go.RowKit
set_option linter.unusedVariables false

theorem Sl.two (w : World) (t : TypeId) (u v : UInt8) (x y : Int) (hx : x = (u.toNat : Int)) (hy : y = (v.toNat : Int)) : Sl (w.alloc (.cells #[.int .u8 x, .int .u8 y] t)) 1 (some ⟨w.heap.size, 0, none⟩) 2 2 (cells [u, v]) := by
  subst hx; subst hy
  exact Sl.made w #[.int .u8 (u.toNat : Int), .int .u8 (v.toNat : Int)] t 1 2 rfl (by decide)

/-- What the examples answer: they hold; what lay in memory lies there still. -/
def RetTrue (w : World) (e : Ending) (w' : World) : Prop := e = .returned (.bool true) ∧ Below w.heap.size w w'

set_option maxHeartbeats 400000 in
set_option maxRecDepth 20000 in
theorem read_any (w : World) : Calls Try.prog 8 #[] w (RetTrue w) := by
  have h1 : Sl (w.alloc (.cells #[.int .u8 172, .int .u8 2] 5)) 1 (some ⟨w.heap.size, 0, none⟩) 2 2 (cells [0xac, 2]) := Sl.two _ _ _ _ _ _ (by decide) (by decide)
  have h2 : Sl ((w.alloc (.cells #[.int .u8 172, .int .u8 2] 5)).alloc (.cells #[.int .u8 128, .int .u8 0] 5)) 1 (some ⟨w.heap.size + 1, 0, none⟩) 2 2 (cells [0x80, 0]) := by
    have := Sl.two (w.alloc (.cells #[.int .u8 172, .int .u8 2] 5)) 5 0x80 0 128 0 (by decide) (by decide)
    simpa using this
  have h3 : Sl (((w.alloc (.cells #[.int .u8 172, .int .u8 2] 5)).alloc (.cells #[.int .u8 128, .int .u8 0] 5)).alloc (.cells #[.int .u8 2, .int .u8 97] 5)) 1 (some ⟨w.heap.size + 1 + 1, 0, none⟩) 2 2 (cells [2, 97]) := by
    have := Sl.two ((w.alloc (.cells #[.int .u8 172, .int .u8 2] 5)).alloc (.cells #[.int .u8 128, .int .u8 0] 5)) 5 2 97 2 97 (by decide) (by decide)
    simpa using this
  have hb : Below w.heap.size w (((w.alloc (.cells #[.int .u8 172, .int .u8 2] 5)).alloc (.cells #[.int .u8 128, .int .u8 0] 5)).alloc (.cells #[.int .u8 2, .int .u8 97] 5)) :=
    (((Below.refl _ _).alloc (Nat.le_refl _) _).alloc (by simp) _).alloc (by simp; omega) _
  have H1 := Lib.hid h1; clear h1
  have H2 := Lib.hid h2; clear h2
  have H3 := Lib.hid h3; clear h3
  have Hb := Lib.hid hb; clear hb
  go_enter Try.func8, Try.ntmps8
  go_wp2_with fail
  refine (var_eq _ 2 2 [0xac, 2] 0 _ H1.out (n0 := 300) (p0 := 2) (e0 := 0) (by decide)).mono ?_; rintro e w' ⟨rfl, rfl⟩
  go_wp2_with fail
  refine (var_eq _ 2 2 [0x80, 0] 0 _ H2.out (n0 := 0) (p0 := 0) (e0 := 3) (by decide)).mono ?_; rintro e w' ⟨rfl, rfl⟩
  go_wp2_with fail
  have ht := text_any _ 2 2 [2, 97] 0 9 _ H3.out (by decide) (by decide)
  rw [show longR [2, 97] 0 9 = ([], 0, 5) from by decide] at ht
  refine ht.mono ?_; clear ht; rintro e w' ⟨rfl, rfl⟩
  generalize (((w.alloc (.cells #[.int .u8 172, .int .u8 2] 5)).alloc (.cells #[.int .u8 128, .int .u8 0] 5)).alloc (.cells #[.int .u8 2, .int .u8 97] 5)) = w3 at *
  go_wp2_with fail
  refine (put_yes none 0 0 [] 3 258 _ (Sl.nil _ _ _ (by decide)) (by decide) (by decide) (by decide) (by decide)).mono ?_; rintro e w4 ⟨A4, n4, c4, rfl, h4, hb4⟩
  have k4 : (convert 22 9 (.slice A4 n4 c4)).run Try.prog w4 = .ok (.string ⟨#[2, 1, 0]⟩) w4 := by
    rw [show ([] ++ le 3 258 : List UInt8) = [2, 1, 0] from by decide] at h4
    exact run_string_of 22 5 9 Try.underlying22 Try.underlying5 Try.underlying9 h4
  go_wp2_with fail
  clear k4
  refine (putVar_any none 0 0 [] 300 _ (Sl.nil _ _ _ (by decide)) (by decide) (by decide)).mono ?_; rintro e w5 ⟨A5, n5, c5, rfl, h5, hb5⟩
  have k5 : (convert 22 9 (.slice A5 n5 c5)).run Try.prog w5 = .ok (.string ⟨#[172, 2]⟩) w5 := by
    rw [show ([] ++ venc 9 300 : List UInt8) = [172, 2] from by decide] at h5
    exact run_string_of 22 5 9 Try.underlying22 Try.underlying5 Try.underlying9 h5
  go_wp2_with fail
  go_ret
  exact ⟨rfl, (Hb.out.trans (hb4.mono Hb.out.size)).trans (hb5.mono (Nat.le_trans Hb.out.size hb4.size))⟩
end Go.Proofs.Ytddcpjblahonhaa

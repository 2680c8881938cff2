/-
  The statements' own 'summed' (the page's examples) answers true; contracts of the document's answers: register, turned, noughts, More, Sum, Zeros, Join, Turned. Condition: the table reads as the row lists it ('Nt').
-/
import Derived.Test.YtpmjpagmddjjaaaDoorCrce
import Derived.Lib.SlBytesConst
namespace Go.Proofs.YtpmjpagmddjjaaaDoor
open Go.RowKit
set_option linter.unusedVariables false

theorem Sl.consts {w : World} {t : TypeId} {cs : Array Value} {fr : Nat × Nat} (l : List UInt8) (n : Nat) (hn : cs.size = n) (h63 : n ≤ maxLen) (h : cs.toList = cells l) : Sl (w.alloc (.cells cs t fr)) 1 (some ⟨w.heap.size, 0, none⟩) n n (cells l) := by
  rw [← h]
  exact ⟨by simpa using hn, Nat.le_refl _, h63, fun j u hu => ⟨w.heap.size, 0, rfl, by rw [cell_of_row _ _ _ cs t fr (heap_alloc_new w _), Nat.zero_add]; simpa using hu⟩⟩

theorem ex_whole : more 0 [49, 50, 51, 52, 53, 54, 55, 56, 57] = 3808858755#32 := by decide +kernel
theorem ex_join : joinW (more 0 [49, 50, 51, 52, 53]) (more 0 [54, 55, 56, 57]) (4 : Int).toNat = 3808858755#32 := by decide +kernel

/-- Any call that answers true, and makes at most new memory. -/
def SaysTrue (w : World) (e : Ending) (w' : World) : Prop := e = .returned (.bool true) ∧ Below w.heap.size w w'

set_option maxHeartbeats 400000 in
set_option maxRecDepth 20000 in
theorem summed_any (w : World) (h : Nt w) : Calls Tryd.prog 9 #[] w (SaysTrue w) := by
  have H := Lib.hid h; clear h
  have kc := fun (w : World) (C : Array Value) (n c : Nat) => Lib.run_convert_bytes_const (P := Tryd.prog) w 22 5 C n c Tryd.underlying22 Tryd.underlying5
  have e1 := Lib.hid ex_whole
  have e2 := Lib.hid ex_join
  go_enter Tryd.func9, Tryd.ntmps9
  go_wp2_with fail
  refine (sum_any _ 9 9 [49, 50, 51, 52, 53, 54, 55, 56, 57] _ ?c1 ?c2).mono ?_
  case c1 => exact Sl.consts _ 9 rfl (by decide) rfl
  case c2 => exact H.out.keep ((Below.refl _ _).alloc (Nat.le_refl _) _)
  rintro e w1 ⟨rfl, hb1⟩
  rw [e1.out]
  have hb01 : Below w.heap.size w w1 := ((Below.refl _ _).alloc (Nat.le_refl _) _).trans (hb1.mono (by simp))
  clear hb1
  have H1 := Lib.hid (H.out.keep hb01)
  go_wp2_with fail
  refine (sum_any _ 5 5 [49, 50, 51, 52, 53] _ ?d1 ?d2).mono ?_
  case d1 => exact Sl.consts _ 5 rfl (by decide) rfl
  case d2 => exact H1.out.keep ((Below.refl _ _).alloc (Nat.le_refl _) _)
  rintro e w2 ⟨rfl, hb2⟩
  have hb02 : Below w.heap.size w w2 := hb01.trans (((Below.refl _ _).alloc hb01.size _).trans (hb2.mono (by have := hb01.size; simp; omega)))
  clear hb2
  have H2 := Lib.hid (H.out.keep hb02)
  go_wp2_with fail
  refine (sum_any _ 4 4 [54, 55, 56, 57] _ ?f1 ?f2).mono ?_
  case f1 => exact Sl.consts _ 4 rfl (by decide) rfl
  case f2 => exact H2.out.keep ((Below.refl _ _).alloc (Nat.le_refl _) _)
  rintro e w3 ⟨rfl, hb3⟩
  have hb03 : Below w.heap.size w w3 := hb02.trans (((Below.refl _ _).alloc hb02.size _).trans (hb3.mono (by have := hb02.size; simp; omega)))
  clear hb3
  have H3 := Lib.hid (H.out.keep hb03)
  go_wp2_with fail
  refine (join_any (more 0 [49, 50, 51, 52, 53]) (more 0 [54, 55, 56, 57]) 4 _ (by decide) (by decide) H3.out).mono ?_
  rintro e w4 ⟨rfl, hb4⟩
  rw [e2.out]
  go_wp2_with fail
  go_ret
  exact ⟨rfl, hb03.trans (hb4.mono hb03.size)⟩
end Go.Proofs.YtpmjpagmddjjaaaDoor

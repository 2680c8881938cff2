/-
  Contracts of package drive's New, Replace and Fail. No condition but bounds.
-/
import Derived.Test.YtmlmlmlbdjhfhaaDrl
namespace Go.Proofs.Ytmlmlmlbdjhfhaa
open Go.RowKit Go.Proofs Go.Maps
set_option linter.unusedVariables false

theorem made_flat {α : Type} {f : α → List Value} {k : Nat} (h : ∀ a, (f a).length = k) (hk : 0 < k) (a : α) (z : Array Value) (hz : z.toList = f a) (n : Nat) : (madeCells z (n * k)).toList = (List.replicate n a).flatMap f := by
  have hs : z.size = k := by rw [← Array.length_toList, hz, h]
  apply List.ext_getElem?
  intro t
  by_cases ht : t < n * k
  · have e := flat_get (f := f) h (l := List.replicate n a) (i := t / k) (a := a) (by
      rw [List.getElem?_replicate, if_pos]
      exact (Nat.div_lt_iff_lt_mul hk).2 ht) (t % k) (Nat.mod_lt _ hk)
    rw [Nat.div_add_mod'] at e
    rw [e, ← hz]
    have hm : t % k < z.size := by rw [hs]; exact Nat.mod_lt _ hk
    simp [madeCells, ht, hs]
    rw [getElem!_pos z (t % k) hm, Array.getElem?_eq_getElem hm]
  · rw [List.getElem?_eq_none (by rw [Array.length_toList, size_madeCells]; omega), List.getElem?_eq_none (by rw [flat_len h, List.length_replicate]; omega)]

/-- A sector that nobody wrote. -/
def nil9 : List UInt8 × Bool := (full 0, false)
theorem info9 : (Try.prog.info? 71).map (fun i => (i.zero, i.size, i.bytes)) = some (some (.agg (sec9 nil9).toArray), 65, 65) := by kernel_rfl
theorem make9 (z : Int) (k : Nat) (hz : z = (k : Int)) (hk : k ≤ 600) (w : World) :
    (Instr.makeSlice 59 (.int .i64 z) (.int .i64 z)).run Try.prog w = .ok (.slice (some ⟨w.heap.size, 0, none⟩) k k) (w.alloc (.cells (madeCells (sec9 nil9).toArray (k * 65)) 71)) := by
  obtain ⟨i0, hi, hz0, hz1, hz2⟩ := info_parts info9
  subst hz
  have h := run_make (P := Try.prog) w 59 71 i0 (.agg (sec9 nil9).toArray) Try.underlying59 hi hz0 .i64 .i64 (k : Int) (k : Int) (by omega) (by omega) (by rw [hz2]; omega) (by omega)
  rw [hz1, Int.toNat_natCast] at h
  exact h
theorem disk9 (w : World) (k : Nat) (hk : k ≤ 600) : Rw (w.alloc (.cells (madeCells (sec9 nil9).toArray (k * 65)) 71)) w.heap.size 71 65 k k ((List.replicate k nil9).flatMap sec9) := by
  rw [← made_flat sec9_len (by decide) nil9 (sec9 nil9).toArray List.toList_toArray k]
  exact Rw.new w _ _ 65 k (size_madeCells _ _) (by unfold maxLen; omega)
theorem Lst.made (w : World) : Lst (w.alloc (.map #[] 0)) w.heap.size [] := ⟨.map [], World.ownsMap_made _ _ _ _, ⟨_, rfl⟩, fun i zd => by
  show _ = zd
  simp [WideAt.atKey_none]⟩

theorem box4 {w : World} {D : Nat} {T : TypeId} {a b c d : Value} (h : w.heap[D]? = some (.cells #[a, b, c, d] T (0, 0))) (a' b' c' d' : Value) :
    ((((w.setCell ⟨D, 0, none⟩ a').setCell ⟨D, 1, none⟩ b').setCell ⟨D, 2, none⟩ c').setCell ⟨D, 3, none⟩ d').heap[D]? = some (.cells #[a', b', c', d'] T (0, 0)) :=
  heap_setCell_same _ D 3 _ _ d' (heap_setCell_same _ D 2 _ _ c' (heap_setCell_same _ D 1 _ _ b' (heap_setCell_same w D 0 _ _ a' h)))
/-- What New answers. -/
def RetNew9 (n : Nat) (w : World) (e : Ending) (w' : World) : Prop := ∃ D Bd cd M ds, e = .returned (.pointer (some ⟨D, 0, none⟩)) ∧ Rq w' D (Dv.new n) Bd cd none 0 M ds ∧ Below w.heap.size w w' ∧ w.heap.size ≤ D ∧ w.heap.size ≤ Bd ∧ w.heap.size ≤ M
/-- What New makes. -/
theorem Rq.made (w : World) (n : Nat) (h1 : 1 ≤ n) (h2 : n ≤ 600) :
    Rq (((w.alloc (.cells (madeCells (sec9 nil9).toArray (n * 65)) 71)).alloc (.map #[] 0)).alloc (.cells #[.slice (some ⟨w.heap.size, 0, none⟩) n n, .slice none 0 0, .map (some (w.heap.size + 1)), .bool false] 63)) (w.heap.size + 1 + 1) (Dv.new n) w.heap.size n none 0 (w.heap.size + 1) (List.replicate n nil9) := by
  have hb1 : Below (w.alloc (.cells (madeCells (sec9 nil9).toArray (n * 65)) 71)).heap.size (w.alloc (.cells (madeCells (sec9 nil9).toArray (n * 65)) 71)) (((w.alloc (.cells (madeCells (sec9 nil9).toArray (n * 65)) 71)).alloc (.map #[] 0)).alloc (.cells #[.slice (some ⟨w.heap.size, 0, none⟩) n n, .slice none 0 0, .map (some (w.heap.size + 1)), .bool false] 63)) :=
    ((Below.refl _ _).alloc (Nat.le_refl _) _).alloc (by simp) _
  have hl := Lst.made (w.alloc (.cells (madeCells (sec9 nil9).toArray (n * 65)) 71))
  have es : (w.alloc (.cells (madeCells (sec9 nil9).toArray (n * 65)) 71)).heap.size = w.heap.size + 1 := by simp
  rw [es] at hl
  refine ⟨?_, ?_, .inl ⟨rfl, rfl, rfl⟩, ?_, ?_, ?_, ?_, Dv.new_ok n, fun _ i hi => ?_⟩
  · have := heap_alloc_new ((w.alloc (.cells (madeCells (sec9 nil9).toArray (n * 65)) 71)).alloc (.map #[] 0)) (.cells #[.slice (some ⟨w.heap.size, 0, none⟩) n n, .slice none 0 0, .map (some (w.heap.size + 1)), .bool false] 63)
    have es2 : ((w.alloc (.cells (madeCells (sec9 nil9).toArray (n * 65)) 71)).alloc (.map #[] 0)).heap.size = w.heap.size + 1 + 1 := by simp
    rw [es2] at this
    rw [Dv.new_n]
    exact this
  · rw [Dv.new_n]
    exact (disk9 w n h2).later hb1
  · exact hl.fr (S := fun _ => False) (Fr.of_below ((Below.refl _ _).alloc (Nat.le_refl _) _)) (fun h => h)
  · rw [Dv.new_n, List.length_replicate]
  · rw [Dv.new_n]; exact h1
  · rw [Dv.new_n]; exact h2
  · rw [Dv.new_n] at hi
    simp [Dv.new, hi, nil9]
set_option maxRecDepth 20000
set_option maxHeartbeats 800000
theorem dvnew_yes (n : Nat) (w : World) (h1 : 1 ≤ n) (h2 : n ≤ 600) : Calls Try.prog 8 #[.int .i64 (n : Int)] w (RetNew9 n w) := by
  have hmk := make9 (n : Int) n rfl h2
  have hmm := @run_makeMap Try.prog
  have q1 : ¬ (n : Int) < 1 := by omega
  have q2 : ¬ (600 : Int) < (n : Int) := by omega
  go_enter Try.func8, Try.ntmps8
  go_wp2_with fail
  go_ret
  refine ⟨w.heap.size + 1 + 1, w.heap.size, n, w.heap.size + 1, List.replicate n nil9, rfl, Rq.made w n h1 h2, (((Below.refl _ _).alloc (Nat.le_refl _) _).alloc (by simp) _).alloc (by simp; omega) _, ?_, ?_, ?_⟩
  all_goals omega
theorem dvnew_no (z : Int) (w : World) (h1 : -9223372036854775808 ≤ z) (h2 : z < 9223372036854775808) (h : ¬ (1 ≤ z ∧ z ≤ 600)) : Calls Try.prog 8 #[.int .i64 z] w fun e w' => e = .returned (.pointer none) ∧ Below w.heap.size w w' := by
  by_cases q1 : z < 1
  · go_enter Try.func8, Try.ntmps8
    go_wp2_with fail
    go_ret
    exact ⟨rfl, Below.refl _ _⟩
  · have q2 : (600 : Int) < z := by omega
    clear h
    go_enter Try.func8, Try.ntmps8
    go_wp2_with fail
    go_ret
    exact ⟨rfl, Below.refl _ _⟩

section
variable {w : World} {D Bd cd cc M : Nat} {x : Dv} {Ac : Option Addr} {ds : List (List UInt8 × Bool)}
/-- What Replace does: the drive's box reads as a new one's. -/
def RetRep9 (n : Nat) (D : Nat) (w : World) (e : Ending) (w' : World) : Prop := ∃ Bd cd M ds, e = .returned (.tuple #[]) ∧ Rq w' D (Dv.new n) Bd cd none 0 M ds ∧ Fr (fun b => b = D) w w' ∧ w.heap.size ≤ Bd ∧ w.heap.size ≤ M
theorem dvreplace_any (h : Rq w D x Bd cd Ac cc M ds) : Calls Try.prog 19 #[.pointer (some ⟨D, 0, none⟩)] w (RetRep9 x.n D w) := by
  have hm := dvmade_any h
  have c0 := h.c0
  have hnew := dvnew_yes x.n w h.n1 h.n2
  have HR := Lib.hid h
  obtain ⟨n, hxn⟩ : ∃ n, n = x.n := ⟨_, rfl⟩
  rw [← hxn] at c0 hnew ⊢
  clear hxn h
  go_enter Try.func19, Try.ntmps19
  go_wp2_with fail
  refine hm.mono ?_; rintro e w1 ⟨rfl, rfl⟩
  go_wp2_with fail
  refine hnew.mono ?_; clear hnew; rintro e w2 ⟨D', Bd', cd', M', ds', rfl, hq, hb, h1, h2, h3⟩
  have k0 := hq.c0
  have k1 := hq.c1
  have k2 := hq.c2
  have k3 := hq.c3
  have HQ := Lib.hid hq
  have HB := Lib.hid hb
  have hDlt : D < w1.heap.size := block_lt HR.out.box
  have hbox := (hb.block D hDlt).trans HR.out.box
  have HX := Lib.hid hbox
  have f0 := frozen_of_row w2 D 0 _ _ hbox
  have f1 := frozen_of_row w2 D 1 _ _ hbox
  have f2 := frozen_of_row w2 D 2 _ _ hbox
  have f3 := frozen_of_row w2 D 3 _ _ hbox
  have b0 := (HR.out.later hb).c0
  have b1 := (HR.out.later hb).c1
  have b2 := (HR.out.later hb).c2
  have b3 := (HR.out.later hb).c3
  clear hq hb hbox c0 hm
  go_wp2_with fail
  go_end0
  obtain ⟨y, hy⟩ : ∃ y, y = Dv.new n := ⟨_, rfl⟩
  have hq := HQ.out
  unfold RetRep9
  rw [← hy] at hq ⊢
  have hF : Fr (fun b => b = D) w2 ((((w2.setCell ⟨D, 0, none⟩ (.slice (some ⟨Bd', 0, none⟩) y.n cd')).setCell ⟨D, 1, none⟩ (.slice none y.wait.length 0)).setCell ⟨D, 2, none⟩ (.map (some M'))).setCell ⟨D, 3, none⟩ (.bool y.gone)) :=
    ((((Fr.refl (fun b => b = D) _).setCell (p := ⟨D, 0, none⟩) (.inr rfl) _).setCell (p := ⟨D, 1, none⟩) (.inr rfl) _).setCell (p := ⟨D, 2, none⟩) (.inr rfl) _).setCell (p := ⟨D, 3, none⟩) (.inr rfl) _
  refine ⟨Bd', cd', M', ds', rfl, ⟨box4 HX.out _ _ _ _, hq.disk.fr hF ?_, .inl ?_, hq.lst.fr hF ?_, hq.len, hq.n1, hq.n2, hq.ok, hq.has⟩, (Fr.of_below HB.out).trans hF, h2, h3⟩
  · show ¬ Bd' = D; omega
  · rw [hy]; exact ⟨rfl, rfl, rfl⟩
  · show ¬ M' = D; omega
/-- What Fail does. -/
def RetFail9 (x : Dv) (D : Nat) (w : World) (e : Ending) (w' : World) : Prop := ∃ Bd cd M ds, e = .returned (.tuple #[]) ∧ Rq w' D x.fail Bd cd none 0 M ds ∧ Fr (fun b => b = D) w w' ∧ w.heap.size ≤ Bd ∧ w.heap.size ≤ M
theorem dvfail_any (h : Rq w D x Bd cd Ac cc M ds) : Calls Try.prog 17 #[.pointer (some ⟨D, 0, none⟩)] w (RetFail9 x D w) := by
  have hm := dvmade_any h
  have hr := dvreplace_any h
  have HR := Lib.hid h
  clear h
  go_enter Try.func17, Try.ntmps17
  go_wp2_with fail
  refine hm.mono ?_; rintro e w1 ⟨rfl, rfl⟩
  go_wp2_with fail
  refine hr.mono ?_; clear hr; rintro e w2 ⟨Bd', cd', M', ds', rfl, hq, hf, h2, h3⟩
  have k3 := hq.c3
  have kf := hq.free 3
  have HQ := Lib.hid hq
  have HF := Lib.hid hf
  have hDlt : D < w1.heap.size := block_lt HR.out.box
  clear hq hf hm
  go_wp2_with fail
  go_end0
  have hq := HQ.out
  have hn : x.fail.n = x.n := by simp [Dv.fail, Dv.n]
  have hk : (Dv.new x.n).n = x.n := Dv.new_n _
  have hF : Fr (fun b => b = D) w2 (w2.setCell ⟨D, 3, none⟩ (.bool true)) := (Fr.refl (fun b => b = D) _).setCell (p := ⟨D, 3, none⟩) (.inr rfl) _
  refine ⟨Bd', cd', M', ds', rfl, ⟨?_, ?_, .inl ⟨rfl, rfl, rfl⟩, hq.lst.fr hF ?_, ?_, ?_, ?_, Dv.Ok.fail x, fun hg => by cases hg⟩, HF.out.trans hF, h2, h3⟩
  · have hb := hq.box
    rw [hk] at hb
    have := heap_setCell_same w2 D 3 _ _ (.bool true) hb
    rw [hn]
    exact this
  · rw [hn, ← hk]
    exact hq.disk.fr hF (by show ¬ Bd' = D; omega)
  · show ¬ M' = D; omega
  · rw [hn, ← hk]; exact hq.len
  · rw [hn, ← hk]; exact hq.n1
  · rw [hn, ← hk]; exact hq.n2
end
end Go.Proofs.Ytmlmlmlbdjhfhaa

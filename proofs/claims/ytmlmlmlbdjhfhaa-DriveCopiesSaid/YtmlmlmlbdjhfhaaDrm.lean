/-
  Contracts of package drive's Read and Stored: a sector's bytes, in new memory. No condition but bounds.
-/
import Derived.Test.YtmlmlmlbdjhfhaaDrl
import Derived.Deep.WholeRow
namespace Go.Proofs.Ytmlmlmlbdjhfhaa
open Go.RowKit Go.Proofs Go.Maps
set_option linter.unusedVariables false

/-- A sector's noughts. -/
def nul9 : Array Value := (List.replicate 64 (Value.int .u8 0)).toArray
theorem zero9 (w : World) : (zeroValue 66).run Try.prog w = .ok (.agg nul9) w := by kernel_rfl
theorem size9 (b : List UInt8) : (Try.prog.info? 66).map (·.size) = some (cells (pad9 b)).toArray.size := by
  rw [List.size_toArray, cells_length, pad9_len]
  kernel_rfl
theorem size9l (b : List UInt8) : (Try.prog.info? 66).map (·.size) = some (cells (pad9 b)).length := by
  rw [cells_length, pad9_len]
  kernel_rfl
theorem load9 {w : World} {b o : Nat} {l : List UInt8} (h : w.rangeAt b o (cells (pad9 l))) : (Instr.loadAt 66 (.pointer (some ⟨b, o, none⟩))).run Try.prog w = .ok (.agg (cells (pad9 l)).toArray) w :=
  run_loadAt_mid w b o 66 _ _ h Try.underlying66 rfl (size9l l)
theorem one9 (l : List UInt8) : (cells (pad9 l)).toArray.all (·.oneCell') = true := all_oneCell_toArray (cells_one _)
theorem old9 (l : List UInt8) : nul9.size = (cells (pad9 l)).toArray.size := (by simp [nul9] : nul9.size = 64).trans (by simp [cells_length, pad9_len])
theorem store9 (w : World) (c : Array Value) (hc : c.size = 64) (l : List UInt8) : (Instr.storeAt 66 (.pointer (some ⟨w.heap.size, 0, none⟩)) (.agg (cells (pad9 l)).toArray)).run Try.prog (w.alloc (.cells c 66)) = .ok () (w.alloc (.cells (cells (pad9 l)).toArray 66)) :=
  run_storeAt_new w 66 c _ (size9 l) (by rw [hc, List.size_toArray, cells_length, pad9_len]) (one9 l)
theorem new9 (w : World) {l : List UInt8} (h : l.length = 64) : NewB w (some ⟨w.heap.size, 0, none⟩) 64 64 l (w.alloc (.cells (cells (pad9 l)).toArray 66)) := by
  have h1 := Sl.made w (cells (pad9 l)).toArray 66 1 64 (by rw [List.size_toArray, cells_length, pad9_len]) (by decide)
  rw [List.toList_toArray, pad9_eq h] at h1
  refine ⟨by rw [pad9_eq h]; exact h1, (Below.refl _ _).alloc (Nat.le_refl _) _, fun b o _ hA => ?_⟩
  injection hA with hA
  injection hA with hA _
  rw [← hA]
  exact Nat.le_refl _
section
variable {w : World} {D Bd cd cc M : Nat} {x : Dv} {Ac : Option Addr} {ds : List (List UInt8 × Bool)}
theorem Dv.refX_yes {z : Int} (hg : x.gone = false) (hz : x.has z) : x.refX z = 0 := by rw [Dv.refX, if_neg (by rw [hg]; decide), if_pos hz]
theorem Dv.refX_no {z : Int} (hx : ¬ (x.gone = false ∧ x.has z)) : x.refX z ≠ 0 := by
  rw [Dv.refX]
  split
  · decide
  · rename_i hg
    split
    · rename_i hh; exact absurd ⟨by simpa using hg, hh⟩ hx
    · decide
theorem Rq.wlen (h : Rq w D x Bd cd Ac cc M ds) {i : Nat} {p : Nat × List UInt8} (hp : x.wait[i]? = some p) : p.2.length = 64 := (h.ok.wait p (List.mem_of_getElem? hp)).2
set_option maxRecDepth 100000
set_option maxHeartbeats 800000
theorem dvstored_any (z : Int) (h1 : -9223372036854775808 ≤ z) (h2 : z < 9223372036854775808) (h : Rq w D x Bd cd Ac cc M ds) : Calls Try.prog 42 #[.pointer (some ⟨D, 0, none⟩), .int .i64 z] w fun e w' => ∃ A n c, e = .returned (.slice A n c) ∧ NewB w A n c (x.storedL z) w' := by
  have hm := dvrefuses_any z h1 h2 h
  have c0 := h.c0
  by_cases hx : x.gone = false ∧ x.has z
  · have e2 : x.storedL z = x.st.getD z.toNat [] := by rw [Dv.storedL, if_pos hx]
    rw [Dv.refX_yes hx.1 hx.2] at hm
    have hz := hx.2
    unfold Dv.has at hz
    obtain ⟨i, rfl⟩ : ∃ i : Nat, z = (i : Int) := ⟨z.toNat, by omega⟩
    have hi : i < x.n := by omega
    obtain ⟨hd, hl⟩ := h.sect hx.1 hi
    have hrg := h.disk.sec_text hd
    simp only at hrg
    rw [e2, Int.toNat_natCast]
    obtain ⟨b, hb⟩ : ∃ b, b = x.st.getD i [] := ⟨_, rfl⟩
    rw [← hb] at hrg hl ⊢
    have hlt : (i : Int) < (x.n : Int) := by omega
    obtain ⟨n, hxn⟩ : ∃ n, n = x.n := ⟨_, rfl⟩
    rw [← hxn] at c0 hlt
    have hzr := zero9
    have HL := Lib.hid hl
    clear hxn e2 hz hx hi hb hd hl
    go_enter Try.func42, Try.ntmps42
    go_wp2_with fail
    refine hm.mono ?_; rintro e w1 ⟨rfl, rfl⟩
    go_wp2_with (first
      | (refine at_dst (d := 17) ?_; refine wpList_load_mid (op := ⟨some 17, _, _, _, _, _⟩) rfl 66 (.tmp 16) rfl Bd (i * 65) rfl (cells (pad9 b)) _ hrg Try.underlying66 rfl (size9l b) ?_)
      | (refine at_none ?_; refine wpList_store_row (o := ⟨none, _, _, _, _, _⟩) rfl 66 (.tmp 5) (.tmp 17) rfl w1.heap.size _ rfl rfl 66 nul9 (heap_alloc_last _ _) (size9 b) (old9 b) (one9 b) ?_; rw [World.setRow_alloc_new]))
    go_ret
    exact ⟨_, _, _, rfl, new9 _ HL.out⟩
  · have e1 := Dv.refX_no hx
    have e2 : x.storedL z = [] := by rw [Dv.storedL, if_neg hx]
    rw [e2]
    obtain ⟨r, hr⟩ : ∃ r, r = x.refX z := ⟨_, rfl⟩
    rw [← hr] at e1 hm
    clear hr e2
    go_enter Try.func42, Try.ntmps42
    go_wp2_with fail
    refine hm.mono ?_; rintro e w1 ⟨rfl, rfl⟩
    go_wp2_with fail
    go_ret
    exact ⟨_, _, _, rfl, Sl.nil w1 1 0 (by decide), Below.refl _ _, fun _ _ h => absurd h (by decide)⟩
end
end Go.Proofs.Ytmlmlmlbdjhfhaa

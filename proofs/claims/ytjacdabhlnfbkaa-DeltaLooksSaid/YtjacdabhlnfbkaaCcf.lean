/-
  Toward CodeAdds: parity goes over sums, in plain words; append of a row as a step of a region that draws; rows of no bytes. No condition.
-/
import Derived.Test.YtjacdabhlnfbkaaCce
namespace Go.Proofs.Ytjacdabhlnfbkaa
open Go.RowKit Go.Proofs
set_option linter.unusedVariables false

theorem addL_rowL (W : Nat) (f g : Nat → UInt8) : addL (rowL W f) (rowL W g) = rowL W fun p => f p ^^^ g p := by
  apply List.ext_getElem
  · simp [addL, rowL]
  · intro i h1 h2
    simp [addL, rowL]
/-- The first j rows' sums. -/
def bothL (a b : List UInt8) (V j : Nat) : List (List UInt8) := (List.range j).map fun i => addL (cutR a V i) (cutR b V i)
theorem bothL_length (a b : List UInt8) (V j : Nat) : (bothL a b V j).length = j := by simp [bothL]
theorem bothL_next (a b : List UInt8) (V j : Nat) : bothL a b V j ++ [addL (cutR a V j) (cutR b V j)] = bothL a b V (j + 1) := by simp [bothL, List.range_succ]
theorem bothL_getD (a b : List UInt8) (V k j : Nat) (h : j < k) : (bothL a b V k).getD j [] = addL (cutR a V j) (cutR b V j) := by simp [bothL, h]
theorem bothL_rows (a b : List UInt8) (V k : Nat) : ∀ r ∈ bothL a b V k, r.length = V := by
  intro r hr
  obtain ⟨j, _, rfl⟩ := List.mem_map.1 hr
  rw [addL_length, cutR_length, cutR_length, Nat.min_self]
theorem even_of {rs : List (List UInt8)} {k V : Nat} (hl : rs.length = k) (h : ∀ r ∈ rs, r.length = V) : evenB rs (k : Int) = true := by
  rw [evenB, hl, decide_eq_true rfl, Bool.true_and]
  refine decide_eq_true fun j hj => ?_
  have h1 : ∀ i, i < rs.length → (rs.getD i []).length = V := fun i hi => by
    rw [show rs.getD i [] = rs[i] from by simp [hi]]
    exact h _ (List.getElem_mem hi)
  rw [h1 j hj, h1 0 (by omega)]
theorem parL_get (k : Nat) (rs : List (List UInt8)) (m r : Nat) (h : r < m) : (parL k rs m)[r]? = some (shard k rs (k + r)) := by simp [parL, h]
theorem shard_w (k : Nat) (rs : List (List UInt8)) (V i : Nat) (hk : 0 < k) (hl : rs.length = k) (h : ∀ r ∈ rs, r.length = V) : shard k rs i = sumR V (rowC k i) rs k := by
  rw [shard, show (rs.getD 0 []).length = V from by
    rw [show rs.getD 0 [] = rs[0]'(by omega) from by simp [show 0 < rs.length by omega]]
    exact h _ (List.getElem_mem _)]
theorem shard_adds (a b : List UInt8) (V k i : Nat) (hk : 0 < k) : addL (shard k (cutL a V k) i) (shard k (cutL b V k) i) = shard k (bothL a b V k) i := by
  rw [shard_w k _ V i hk (cutL_length _ _ _) (cut_rows _ _ _), shard_w k _ V i hk (cutL_length _ _ _) (cut_rows _ _ _), shard_w k _ V i hk (bothL_length _ _ _ _) (bothL_rows _ _ _ _)]
  rw [sumR, sumR, sumR, addL_rowL]
  apply rowL_congr
  intro p hp
  rw [← xs_xor]
  apply xs_congr
  intro j hj
  rw [cut_getD a V k j hj, cut_getD b V k j hj, bothL_getD a b V k j hj, cutR, cutR, addL_rowL, rowL_getD _ _ _ hp, rowL_getD _ _ _ hp, rowL_getD _ _ _ hp, gm_xor]
theorem zero_rows (k : Nat) : ∀ r ∈ List.replicate k ([] : List UInt8), r.length = 0 := fun r hr => by rw [(List.mem_replicate.1 hr).2]; rfl
theorem gr_zero (w : World) (k : Nat) (hk : k ≤ maxLen) : Gr (w.alloc (.cells (madeCells #[.slice none 0 0] k) 22)) (some ⟨w.heap.size, 0, none⟩) k k (List.replicate k []) := by
  refine ⟨⟨List.replicate k (.slice none 0 0), ⟨by simp, Nat.le_refl _, hk, fun j u hu => ⟨w.heap.size, 0, rfl, ?_⟩⟩, fun i r hi => ?_⟩, by simp⟩
  · rw [cell_of_row _ _ _ _ _ _ (heap_alloc_new w _), Nat.zero_add]
    rw [← toList_madeCells_one] at hu
    simpa using hu
  · rw [List.getElem?_replicate] at hi
    split at hi
    · injection hi with hi
      subst hi
      exact ⟨none, 0, by rw [List.getElem?_replicate, if_pos (by assumption)]; rfl, Sl.nil _ 1 0 (by decide)⟩
    · cases hi

/-- append of one row that the call made, as a step of a region that draws. -/
theorem step_append_g1 {ops : Array Oper} {o : Oper} {a : Act} {w : World} {K : Act → World → Prop} {Q : Exit → Act → World → Prop} {E : Prop} {B n c g : Nat} {A : Option Addr} {rs : List (List UInt8)} (hgd : o.guard = none) (s x : Operand)
    (ho : o.op = .call { callee := .builtin .append, args := #[s, x], argTypes := #[23, 23] })
    (hv : a.eval s = .slice A n c) (h : Gg w B A n c rs) (hB : B ≤ w.heap.size) (A1 : Option Addr) (n1 c1 : Nat) (r : List UInt8) (hn1 : n1 = r.length) (hr : Sl w 1 A1 n1 c1 (cells r)) (hoth : Oth A A1 n1)
    (hg : w.heap[g]? = some (.cells #[.slice A1 n1 c1] 22 (0, 0))) (hx : a.eval x = .slice (some ⟨g, 0, none⟩) 1 1) (h40 : n + 1 ≤ 1048576)
    (hk : ∀ A' c' w', Gg w' B A' (n + 1) c' (rs ++ [r]) → Below B w w' → K (a.put o.dst (.slice A' (n + 1) c')) w') :
    if Region.wanted o (yielded ops a.tmps) = true then Oper.wp Try.prog o a w K Q else E := by
  have hw : Region.wanted o (yielded ops a.tmps) = true := by simp [Region.wanted, hgd]
  rw [if_pos hw]
  subst hn1
  have hs := Gr.one hg hr
  obtain ⟨i0, hi, hz0, hz1, hz2⟩ := info_parts info_bs
  obtain ⟨vs, hown, hrs⟩ := h.ex
  obtain ⟨vs2, hsl2, hrs2⟩ := hs.ex
  have hone := one_slice (rows_slice hsl2 hs.len hrs2)
  obtain ⟨A', c', w', hrun, h2, hfr, hA', hown'⟩ := run_append_fr (P := Try.prog) 23 23 o.type i0 (.slice none 0 0) 24 Try.underlying23 hi hz0 hz1 hz2 rfl (by decide) hown hB h.own (.slice (some ⟨g, 0, none⟩) 1 1) 1 vs2 (hsl2.src Try.underlying23 (by decide) hone) (by unfold maxLen; omega) (by omega)
  unfold Oper.wp execOp
  simp only [ho, resolve, invoke, builtin, Sem.run_bind, Sem.run_pure, Result.andThen_ok, List.map_toArray, List.map_cons, List.map_nil, hv, hx, hrun]
  refine hk A' c' w' ⟨⟨vs ++ vs2, h2, fun i r' hir => ?_⟩, by rw [List.length_append, h.len, hs.len], hown'⟩ (hfr.below hB (fun k ⟨o, e⟩ => (h.own k o e).1))
  have hvl := hown.sl.len
  rw [Nat.mul_one] at hvl
  have new : ∀ A'' c'', Sl w 1 A'' r'.length c'' (cells r') → Oth A A'' r'.length → Sl w' 1 A'' r'.length c'' (cells r') ∧ Oth A' A'' r'.length := by
    intro A'' c'' hsr hot
    refine ⟨hsr.oth hfr hot, fun b o o' hn e e' => ?_⟩
    rcases hA' with rfl | rfl
    · exact hot b o o' hn e e'
    · injection e' with e'
      injection e' with e' _
      have := hsr.lt (by decide) hn e
      omega
  rcases Nat.lt_or_ge i n with hlt | hge
  · rw [List.getElem?_append_left (by rw [h.len]; exact hlt)] at hir
    obtain ⟨A'', c'', e1, e2, e3⟩ := hrs i r' hir
    exact ⟨A'', c'', by rw [List.getElem?_append_left (by rw [hvl]; exact hlt)]; exact e1, new A'' c'' e2 e3⟩
  · rw [List.getElem?_append_right (by rw [h.len]; exact hge), h.len] at hir
    obtain ⟨A'', c'', e1, e2⟩ := hrs2 (i - n) r' hir
    refine ⟨A'', c'', by rw [List.getElem?_append_right (by rw [hvl]; exact hge), hvl]; exact e1, new A'' c'' e2 ?_⟩
    have hi2 : i - n = 0 := by
      rcases Nat.eq_zero_or_pos (i - n) with h' | h'
      · exact h'
      · rw [List.getElem?_eq_none (by simp; omega)] at hir
        cases hir
    rw [hi2] at hir e1
    injection hir with hir
    subst hir
    have hc0 := hsl2.at_ (k := 0) (by decide)
    obtain ⟨b, o', e, hcc⟩ := hc0
    injection e with e
    injection e with eb eo
    subst eb; subst eo
    have hcell := hcc 0 _ e1
    rw [cell_of_row _ _ _ _ _ _ hg] at hcell
    simp at hcell
    obtain ⟨rfl, _⟩ := hcell
    exact hoth
end Go.Proofs.Ytjacdabhlnfbkaa

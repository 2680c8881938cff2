/-
  Words for Invert: rows that are half done; append as a step of a region that draws. No condition.
-/
import Derived.Test.YtccnoflgbopjlaaMdl
namespace Go.Proofs.Ytccnoflgbopjlaa
open Go.RowKit Go.Proofs
set_option linter.unusedVariables false

theorem step_append_any {P : Program} {ops : Array Oper} {o : Oper} {a : Act} {w : World} {K : Act → World → Prop} {Q : Exit → Act → World → Prop} {E : Prop} {B n c size : Nat} {e : TypeId} {A : Option Addr} {xs : List Value} (hgd : o.guard = none) (s x : Operand) (t tx : TypeId)
    (ho : o.op = .call { callee := .builtin .append, args := #[s, x], argTypes := #[t, tx] })
    (i : TypeInfo) (z : Value) (bytes : Nat) (ht : P.underlying t = some (.slice e)) (hi : P.info? e = some i) (hz : i.zero = some z)
    (hsize : i.size = size) (hby : i.bytes = bytes) (hzs : z.cells.size = size) (hsz : 0 < size) (hv : a.eval s = .slice A n c) (h : Own w B e size A n c xs) (hB : B ≤ w.heap.size)
    (m : Nat) (ys : List Value) (xv : Value) (hx : a.eval x = xv) (hs : Src P size tx xv m ys w) (h63 : n + m ≤ maxLen) (hbytes : (n + m) * bytes ≤ 140737488355328)
    (hk : ∀ A' c' w', Own w' B e size A' (n + m) c' (xs ++ ys) → Below B w w' → (0 < m → w'.ownsRow B e size (.slice A' (n + m) c') (n + m) (xs ++ ys)) → K (a.put o.dst (.slice A' (n + m) c')) w') :
    if Region.wanted o (yielded ops a.tmps) = true then Oper.wp P o a w K Q else E := by
  have hw : Region.wanted o (yielded ops a.tmps) = true := by simp [Region.wanted, hgd]
  rw [if_pos hw]
  exact wp_append_mine s x t tx ho i z bytes ht hi hz hsize hby hzs hsz hv h hB m ys xv hx hs h63 hbytes hk
theorem step_append_b {ops : Array Oper} {o : Oper} {a : Act} {w : World} {K : Act → World → Prop} {Q : Exit → Act → World → Prop} {E : Prop} {B n c : Nat} {A : Option Addr} {xs : List Value} (hgd : o.guard = none) (s x : Operand)
    (ho : o.op = .call { callee := .builtin .append, args := #[s, x], argTypes := #[22, 22] })
    (hv : a.eval s = .slice A n c) (h : Own w B 5 1 A n c xs) (hB : B ≤ w.heap.size)
    (A2 : Option Addr) (m c2 : Nat) (ys : List UInt8) (hx : a.eval x = .slice A2 m c2) (hs : Sl w 1 A2 m c2 (cells ys)) (h47 : n + m ≤ 140737488355328)
    (hk : ∀ A' c' w', Own w' B 5 1 A' (n + m) c' (xs ++ cells ys) → Below B w w' → (0 < m → w'.ownsRow B 5 1 (.slice A' (n + m) c') (n + m) (xs ++ cells ys)) → K (a.put o.dst (.slice A' (n + m) c')) w') :
    if Region.wanted o (yielded ops a.tmps) = true then Oper.wp Try.prog o a w K Q else E := by
  obtain ⟨i0, hi, hz0, hz1, hz2⟩ := info_parts info_u8
  exact step_append_any hgd s x _ _ ho i0 (.int .u8 0) 1 Try.underlying22 hi hz0 hz1 hz2 rfl (by decide) hv h hB m (cells ys) _ hx (hs.src Try.underlying22 (by decide) (cells_one ys)) (by unfold maxLen; omega) (by omega) hk
theorem ownsRow_new {w : World} {B n c : Nat} {e : TypeId} {A : Option Addr} {xs : List Value} (h : w.ownsRow B e 1 (.slice A n c) n xs) {b o : Nat} (hn : 0 < n) (hA : A = some ⟨b, o, none⟩) : B ≤ b := by
  obtain ⟨_, hv⟩ := h
  rcases hv with ⟨_, h0⟩ | ⟨g, cap, cur, hv, hb, _⟩
  · omega
  · injection hv with hv
    rw [hA] at hv
    injection hv with hv
    injection hv with hv _
    omega

/-- Rows of which the first k have the identity's behind them. -/
structure Half (w : World) (g n k : Nat) (S : Nat → Prop) (m : Mx) : Prop where
  row : ∃ cur, w.heap[g]? = some (.cells cur 22 (0, 0)) ∧ cur.size = n ∧
    (∀ i, i < k → i < n → ∃ A c, cur[i]? = some (.slice A (n + n) c) ∧ Sl w 1 A (n + n) c (cells (rowL (n + n) (aug n m i))) ∧ ∀ b o, 0 < n + n → A = some ⟨b, o, none⟩ → ¬ S b) ∧
    (∀ i, k ≤ i → i < n → ∃ A, cur[i]? = some (.slice A n n) ∧ Sl w 1 A n n (cells (rowL n (m i))) ∧ ∀ b o, 0 < n → A = some ⟨b, o, none⟩ → ¬ S b)
section
variable {w w' : World} {g n k : Nat} {S S' : Nat → Prop} {m : Mx}
theorem Half.start (h : RowsF w g n n S m) : Half w g n 0 S m := by
  obtain ⟨cur, hg, hn, hr⟩ := h.row
  exact ⟨cur, hg, hn, fun i hi => absurd hi (by omega), fun i _ hi => hr i hi⟩
theorem Half.done (h : Half w g n n S m) : RowsAt w g n (n + n) S (aug n m) := by
  obtain ⟨cur, hg, hn, h1, _⟩ := h.row
  exact ⟨cur, hg, hn, fun i hi => h1 i hi hi⟩
theorem Half.free (h : Half w g n k S m) (i : Nat) : w.frozen? ⟨g, i, none⟩ = false := by
  obtain ⟨cur, hg, _⟩ := h.row
  exact frozen_of_row _ _ _ _ _ hg
theorem Half.lt (h : Half w g n k S m) : g < w.heap.size := by
  obtain ⟨cur, hg, _⟩ := h.row
  exact block_lt hg
theorem Half.cell (h : Half w g n k S m) {i : Nat} (hk : k ≤ i) (hi : i < n) : ∃ A, w.cell? ⟨g, i, none⟩ = some (.slice A n n) ∧ Sl w 1 A n n (cells (rowL n (m i))) := by
  obtain ⟨cur, hg, hn, _, hr⟩ := h.row
  obtain ⟨A, h1, h2, h3⟩ := hr i hk hi
  exact ⟨A, by rw [cell_of_row _ _ _ _ _ _ hg]; exact h1, h2⟩
theorem Half.fr (h : Half w g n k S m) (hf : Fr S' w w') (hg' : ¬ S' g) (hs : ∀ b, S' b → S b) : Half w' g n k S m := by
  obtain ⟨cur, hg, hn, h1, h2⟩ := h.row
  refine ⟨cur, hf.row_some hg hg', hn, fun i hk hi => ?_, fun i hk hi => ?_⟩
  · obtain ⟨A, c, a1, a2, a3⟩ := h1 i hk hi
    exact ⟨A, c, a1, a2.fr hf fun b o hW hA hb => a3 b o hW hA (hs b hb), a3⟩
  · obtain ⟨A, a1, a2, a3⟩ := h2 i hk hi
    exact ⟨A, a1, a2.fr hf fun b o hW hA hb => a3 b o hW hA (hs b hb), a3⟩
theorem Half.later (h : Half w g n k S m) (hb : Below w.heap.size w w') : Half w' g n k S m := h.fr (S' := fun _ => False) (Fr.of_below hb) id (fun _ h => h.elim)
theorem Half.set (h : Half w g n k S m) (hS : S g) (hk : k < n) {A : Option Addr} {c : Nat} (hs : Sl w 1 A (n + n) c (cells (rowL (n + n) (aug n m k)))) (hA : ∀ b o, 0 < n + n → A = some ⟨b, o, none⟩ → ¬ S b) :
    Half (w.setCell ⟨g, k, none⟩ (.slice A (n + n) c)) g n (k + 1) S m := by
  obtain ⟨cur, hg, hn, h1, h2⟩ := h.row
  have hf : Fr (fun k => k = g) w (w.setCell ⟨g, k, none⟩ (.slice A (n + n) c)) := Fr.setCell (S := fun k => k = g) (Fr.refl _ _) (.inr rfl) _
  refine ⟨_, heap_setCell_same w g k cur _ _ hg, by rw [Array.size_setIfInBounds]; exact hn, fun i hi hin => ?_, fun i hi hin => ?_⟩
  · by_cases he : i = k
    · subst he
      exact ⟨A, c, by rw [Array.getElem?_setIfInBounds]; simp [hn, hk], hs.fr hf fun b o hW hb hk => hA b o hW hb (hk ▸ hS), hA⟩
    · obtain ⟨A', c', a1, a2, a3⟩ := h1 i (by omega) hin
      exact ⟨A', c', by rw [Array.getElem?_setIfInBounds, if_neg (fun e => he e.symm)]; exact a1, a2.fr hf fun b o hW hb hk => a3 b o hW hb (hk ▸ hS), a3⟩
  · obtain ⟨A', a1, a2, a3⟩ := h2 i (by omega) hin
    exact ⟨A', by rw [Array.getElem?_setIfInBounds, if_neg (by omega)]; exact a1, a2.fr hf fun b o hW hb hk => a3 b o hW hb (hk ▸ hS), a3⟩
end
theorem aug_rows (n : Nat) (m : Mx) (i : Nat) : rowL n (m i) ++ rowL n (one i) = rowL (n + n) (aug n m i) := rowL_append n n (m i) (one i)

theorem enters_inv1 : ∀ args w, (callFunc 44 args).run Try.prog w = .ok (.enter 44 args) w := enters_of Try.func44 (by kernel_rfl) rfl
set_option maxRecDepth 20000 in
set_option maxHeartbeats 800000 in
theorem invc_any (g7 g6 ga n : Nat) (S : Nat → Prop) (M : Mx) (hn : n ≤ 255) (i j : Nat) (hi : i < n) (hj : j < n) (w : World) (hr : RowsAt w ga n (n + n) S M)
    (k7 : w.cell? ⟨g7, 0, none⟩ = some (.slice (some ⟨ga, 0, none⟩) n n)) (k6 : w.cell? ⟨g6, 0, none⟩ = some (.int .i64 (n : Int))) :
    Calls Try.prog 44 #[.int .i64 (i : Int), .int .i64 (j : Int), .pointer (some ⟨g7, 0, none⟩), .pointer (some ⟨g6, 0, none⟩)] w
      fun e w' => e = .returned (.int .u8 ((M i (n + j)).toNat : Int)) ∧ ∃ k, w' = w.drewN k := by
  obtain ⟨A, c, k1, s1, _⟩ := hr.cell hi
  have hlim := s1.lim
  unfold maxLen at hlim
  obtain ⟨b, o, rfl, hc⟩ := s1.at_ (k := n + j) (by omega)
  have hx := hc (n + j) _ (cells_get _ _ (by rw [rowL_length]; omega))
  rw [show (rowL (n + n) (M i))[n + j]'(by rw [rowL_length]; omega) = M i (n + j) from by simp [rowL], bv] at hx
  clear hc s1 hr
  go_enter Try.func44, Try.ntmps44
  go_wp2_with fail
  go_quiet (fail)
  go_wp2_with fail
  go_ret
  exact ⟨rfl, _, rfl⟩
end Go.Proofs.Ytccnoflgbopjlaa

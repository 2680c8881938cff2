/-
  Integers that grow by append; the contract of the document's There of layer 6. No condition but bounds.
-/
import Derived.Test.YtgoomiimlfdcmaaGreatCaa
namespace Go.Proofs.YtgoomiimlfdcmaaGreat
open Go.RowKit Go.Proofs
set_option linter.unusedVariables false

/-- Numbers as cells. -/
def ncells (l : List Nat) : List Value := l.map fun (n : Nat) => Value.int .i64 (n : Int)
theorem ncells_length (l : List Nat) : (ncells l).length = l.length := by simp [ncells]
theorem ncells_append (l k : List Nat) : ncells (l ++ k) = ncells l ++ ncells k := by simp [ncells]
theorem ncells_get (l : List Nat) (j : Nat) (h : j < l.length) : (ncells l)[j]? = some (.int .i64 (l[j] : Int)) := by simp [ncells, h]
theorem ncells_one (l : List Nat) : ∀ u ∈ ncells l, u.oneCell' = true := by
  intro u hu
  obtain ⟨_, _, rfl⟩ := List.mem_map.1 hu
  rfl
theorem info_i : (Tryz.prog.info? 3).map (fun i => (i.zero, i.size, i.bytes)) = some (some (.int .i64 0), 1, 8) := by kernel_rfl
theorem wpList_append_i {w : World} {B n c : Nat} {A : Option Addr} {xs : List Value} {ops : Array Oper} {rest : List Oper} {o : Oper} {a : Act} {Q : Exit → Act → World → Prop} (hgd : o.guard = none) (s x : Operand)
    (ho : o.op = .call { callee := .builtin .append, args := #[s, x], argTypes := #[38, 38] })
    (hv : a.eval s = .slice A n c) (h : Own w B 3 1 A n c xs) (hB : B ≤ w.heap.size)
    (A2 : Option Addr) (m c2 : Nat) (ys : List Nat) (hx : a.eval x = .slice A2 m c2) (hs : Sl w 1 A2 m c2 (ncells ys)) (h40 : n + m ≤ 17592186044416)
    (hk : ∀ A' c' w', Own w' B 3 1 A' (n + m) c' (xs ++ ncells ys) → Below B w w' → (0 < m → w'.ownsRow B 3 1 (.slice A' (n + m) c') (n + m) (xs ++ ncells ys)) → wpList Tryz.prog ops Q rest (a.put o.dst (.slice A' (n + m) c')) w') : wpList Tryz.prog ops Q (o :: rest) a w := by
  obtain ⟨i0, hi, hz0, hz1, hz2⟩ := info_parts info_i
  exact wpList_append_mine hgd s x _ _ ho i0 (.int .i64 0) 8 Tryz.underlying38 hi hz0 hz1 hz2 rfl (by decide) hv h hB m (ncells ys) _ hx (hs.src Tryz.underlying38 (by decide) (ncells_one ys)) (by unfold maxLen; omega) (by omega) hk
theorem Sl.oneN (w : World) (t : TypeId) (n : Nat) (z : Int) (h : z = (n : Int)) : Sl (w.alloc (.cells #[.int .i64 z] t)) 1 (some ⟨w.heap.size, 0, none⟩) 1 1 (ncells [n]) := by
  subst h
  exact Sl.made w #[.int .i64 (n : Int)] t 1 1 rfl (by decide)

/-- The numbers of the rows that have bytes, of the first j. -/
def thereL (rs : List (List UInt8)) (j : Nat) : List Nat := (List.range j).filter fun i => decide (0 < (rs.getD i []).length)
theorem thereL_next (rs : List (List UInt8)) (j : Nat) : thereL rs (j + 1) = if 0 < (rs.getD j []).length then thereL rs j ++ [j] else thereL rs j := by
  rw [thereL, thereL, List.range_succ, List.filter_append]
  by_cases h : 0 < (rs.getD j []).length
  · rw [if_pos h, List.filter_cons_of_pos (by simpa using h)]
    rfl
  · rw [if_neg h, List.filter_cons_of_neg (by simpa using h)]
    simp
theorem thereL_le (rs : List (List UInt8)) (j : Nat) : (thereL rs j).length ≤ j := by
  have := List.length_filter_le (fun i => decide (0 < (rs.getD i []).length)) (List.range j)
  rwa [List.length_range] at this

set_option maxRecDepth 20000 in
set_option maxHeartbeats 1600000 in
theorem there6_any (A : Option Addr) (n c : Nat) (rs : List (List UInt8)) (w : World) (h : Gr w A n c rs) (hn : n ≤ 1048576) :
    Calls Tryz.prog 26 #[.slice A n c] w fun e w' => (∃ A' q c', e = .returned (.slice A' q c') ∧ Sl w' 1 A' q c' (ncells (thereL rs n))) ∧ Below w.heap.size w w' := by
  have H := Lib.hid h; clear h
  go_enter Tryz.func26, Tryz.ntmps26
  go_wp2_with fail
  go_loopw [3, 4] (fun v i wr => ∃ (j q : Nat) (A' : Option Addr) (c' : Nat), j ≤ n ∧ q ≤ j ∧ i = .int .i64 (j : Int) ∧ v = .slice A' q c' ∧ Own wr w.heap.size 3 1 A' q c' (ncells (thereL rs j)) ∧ Below w.heap.size w wr) (fun _ i _ => n - (intOf i).toNat)
  case atStart => exact ⟨0, 0, none, 0, by omega, by omega, rfl, rfl, (Own.full (Sl.nil w 1 0 (by decide)) : Own w w.heap.size 3 1 none 0 0 []), Below.refl _ _⟩
  case round =>
    obtain ⟨j, q, A', c', hj, hq, rfl, rfl, hO, hb⟩ := hrel
    have HO := Lib.hid hO; clear hO
    have Hb := Lib.hid hb
    have hszr := hb.size
    clear hb
    by_cases hlt : j < n
    · obtain ⟨b, o, rfl, hc⟩ := (H.out.later Hb.out).at_ (by omega)
      obtain ⟨A1, c1, hc1, hs1⟩ := hc j _ (H.out.get hlt)
      have hnext := thereL_next rs j
      obtain ⟨L1, hL1⟩ : ∃ L, L = (rs.getD j []).length := ⟨_, rfl⟩
      rw [← hL1] at hc1 hs1 hnext
      have hm1 := hs1.lim
      unfold maxLen at hm1
      clear hc hs1 hL1
      by_cases hpos : 0 < L1
      · rw [if_pos hpos] at hnext
        have Hnext := Lib.hid hnext; clear hnext
        have hpi : (0 : Int) < (L1 : Int) := by omega
        have hwin : w.heap.size ≤ (wr.alloc (.cells #[.int .i64 (j : Int)] 3)).heap.size := by simp; omega
        go_wp2_with (at_builtin; refine wpList_append_i (B := w.heap.size) rfl (.tmp 17) (.tmp 19) rfl rfl (HO.out.alloc _) hwin (some ⟨wr.heap.size, 0, none⟩) 1 1 [j] rfl (Sl.oneN _ _ _ _ rfl) ?pb ?pc)
        case pb => omega
        intro A2 c2 w2 ho2 hb2 _
        rw [← ncells_append, ← Hnext.out] at ho2
        have Ho2 := Lib.hid ho2; clear ho2
        have Hb2 := Lib.hid ((Hb.out.alloc hszr _).trans hb2); clear hb2
        go_wp2_with fail
        go_roundw
        case rel => exact ⟨j + 1, q + 1, A2, c2, by omega, by omega, by go_num, rfl, Ho2.out, Hb2.out⟩
        case measure => simp [intOf]; omega
      · rw [if_neg hpos] at hnext
        have Hnext := Lib.hid hnext; clear hnext
        have hpi : ¬ ((0 : Int) < (L1 : Int)) := by omega
        go_wp2_with fail
        go_roundw
        case rel => exact ⟨j + 1, q, A', c', by omega, by omega, by go_num, rfl, by rw [Hnext.out]; exact HO.out, Hb.out⟩
        case measure => simp [intOf]; omega
    · obtain rfl : j = n := by omega
      go_wp2_with fail
      go_ret
      exact ⟨⟨A', q, c', rfl, HO.out.sl⟩, Hb.out⟩
end Go.Proofs.YtgoomiimlfdcmaaGreat

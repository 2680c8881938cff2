/-
  ArrayApart as plain data (layer 10): drives that are written in turn; one is turned, the others stay. No program, no condition.
-/
import Derived.Test.YtjjoeaneaibklaaDtk
import Derived.Test.YtjjoeaneaibklaaDtj
import Derived.Test.YtjjoeaneaibklaaDth
namespace Go.Proofs.Ytjjoeaneaibklaa
open Go.RowKit Go.Proofs
set_option linter.unusedVariables false

section
variable {xs ys : List Dv} {n m M t i a k : Nat} {z : Int} {x : Dv} {c : UInt8}
/-- Drives that live, of one size, none rotten, with at most t writes that wait. -/
def Live (M t : Nat) (xs : List Dv) : Prop := ∀ (i : Nat) (x : Dv), xs[i]? = some x → x.gone = false ∧ x.n = M ∧ x.rot = List.replicate M false ∧ x.wait.length ≤ t
theorem live_new : Live M 0 (List.replicate n (Dv.new M)) := fun i x h => by
  rw [List.getElem?_replicate] at h
  split at h
  · injection h with h
    rw [← h]
    exact ⟨rfl, Dv.new_n M, rfl, Nat.le_refl _⟩
  · cases h
theorem Live.wl (h : Live M t xs) (hk : t ≤ k) : Wl k xs := fun i x hx => Nat.le_trans (h i x hx).2.2.2 hk
theorem wl_up {k' : Nat} (h : Wl k xs) (hk : k ≤ k') : Wl k' xs := fun i x hx => Nat.le_trans (h i x hx) hk
theorem rowsL_at (c : UInt8) {q : Nat} (h : i < q) : (rowsL c q)[i]? = some (if i % 5 = 4 then [] else full (c + UInt8.ofNat i)) := by simp [rowsL, h]
theorem live_write (h : x.gone = false ∧ x.n = M ∧ x.rot = List.replicate M false ∧ x.wait.length ≤ t) (z : Int) (l : List UInt8) : (x.write z l).gone = false ∧ (x.write z l).n = M ∧ (x.write z l).rot = List.replicate M false ∧ (x.write z l).wait.length ≤ t + 1 := by
  obtain ⟨h1, h2, h3, h4⟩ := h
  have hn : (x.write z l).rot = x.rot := by
    unfold Dv.write
    split
    · rfl
    · split <;> rfl
  refine ⟨?_, ?_, by rw [hn, h3], write_wait x z l t h4⟩
  · unfold Dv.write
    split
    · exact h1
    · split <;> exact h1
  · rw [Dv.n, hn]; exact h2
theorem Live.put (h : Live M t xs) (c : UInt8) (z : Int) (q : Nat) : Live M (t + 1) (putS xs (rowsL c 4) z q) := fun i x hx => by
  have hi := get_lt hx
  rw [putS, upTo_len] at hi
  have hy : xs[i]? = some (xs[i]) := List.getElem?_eq_getElem hi
  rw [putS, upTo_at hy] at hx
  injection hx with hx
  rw [← hx]
  have hh := h i _ hy
  have hkeep : (xs[i]).gone = false ∧ (xs[i]).n = M ∧ (xs[i]).rot = List.replicate M false ∧ (xs[i]).wait.length ≤ t + 1 := ⟨hh.1, hh.2.1, hh.2.2.1, Nat.le_succ_of_le hh.2.2.2⟩
  split
  · unfold putF
    split
    · exact live_write hh z _
    · exact hkeep
  · exact hkeep
/-- Each of the first four takes its sector. -/
theorem Live.putN (h : Live M k xs) (c : UInt8) (ha : a < M) : ∀ t, t ≤ xs.length → t ≤ 4 → putN xs (rowsL c 4) (a : Int) t = t
  | 0, _, _ => by simp [Go.Proofs.Ytjjoeaneaibklaa.putN, putA]
  | t + 1, h1, h4 => by
    have hx : xs[t]? = some (xs[t]) := List.getElem?_eq_getElem (by omega)
    have hr : (rowsL c 4)[t]? = some (full (c + UInt8.ofNat t)) := by rw [rowsL_at c (by omega), if_neg (by omega)]
    obtain ⟨g1, g2, g3, g4⟩ := h t _ hx
    rw [putN_next hx hr, Live.putN h c ha t (by omega) (by omega), if_pos ⟨full_pos _, Dv.writeX_yes g1 ⟨by omega, by rw [g2]; omega⟩ (full_length _)⟩]
/-- All but one are as in another list. -/
def But (d : Nat) (xs ys : List Dv) : Prop := xs.length = ys.length ∧ ∀ k, k ≠ d → xs[k]? = ys[k]?
theorem But.refl (d : Nat) (xs : List Dv) : But d xs xs := ⟨rfl, fun _ _ => rfl⟩
theorem But.on (h : But i xs ys) (f : Dv → Dv) : But i (onD xs (i : Int) f) ys := ⟨onD_len.trans h.1, fun k hk => (onD_ne (by omega)).trans (h.2 k hk)⟩
theorem on_wl {f : Dv → Dv} (h : Wl k xs) (hf : ∀ x, x.wait.length ≤ k → (f x).wait.length ≤ k + 1) : Wl (k + 1) (onD xs z f) := by
  rcases ofD_cases xs z with ⟨i, x, rfl, hx⟩ | hn
  · rw [onD_yes hx]
    intro j y hy
    rw [List.getElem?_set] at hy
    split at hy
    · split at hy
      · injection hy with hy
        rw [← hy]
        exact hf x (h i x hx)
      · cases hy
    · exact Nat.le_succ_of_le (h j y hy)
  · rw [onD_no hn]
    exact fun j y hy => Nat.le_succ_of_le (h j y hy)
theorem rot_wait (x : Dv) (z o m : Int) : (x.rot1 z o m).wait = x.wait := by
  unfold Dv.rot1
  split <;> rfl
end
/-- rows of few sectors. -/
theorem rows10_four (z : Int) (c : UInt8) (hz : z = (c.toNat : Int)) (w : World) : Calls Try.prog 20 #[.int .u8 z, .int .i64 4] w fun e w' => ∃ A' c', e = .returned (.slice A' 4 c') ∧ Ns cells w' (fun b => w.heap.size ≤ b) A' 4 c' (rowsL c 4) ∧ Below w.heap.size w w' := by
  subst hz
  have h := rows10_any c 4 (by omega) (by omega) w
  unfold RetNs at h
  rw [rowsL_len, show rowsQ 4 = 4 from rfl] at h
  exact h
/-! The box of an act. -/
theorem zero10a (w : World) : (zeroValue 33).run Try.prog w = .ok (.agg #[.int .i64 0, .int .i64 0, .int .i64 0, .int .i64 0, .int .u8 0, .int .u32 0, .slice none 0 0]) w := by kernel_rfl
theorem sizeA10 (a : Bc) : (Try.prog.info? 33).map (·.size) = some a.vals.toArray.size := by kernel_rfl
theorem sizeA10l (a : Bc) : (Try.prog.info? 33).map (·.size) = some a.vals.length := by kernel_rfl
theorem oneA10 (a : Bc) : a.vals.toArray.all (·.oneCell') = true := all_oneCell_toArray (by
  intro v hv
  simp only [Bc.vals, List.mem_cons, List.not_mem_nil, or_false] at hv
  rcases hv with rfl | rfl | rfl | rfl | rfl | rfl | rfl <;> rfl)
/-- A box that an act lies in, whose drive's number has been told anew. -/
structure Bx (w : World) (b : Nat) (dd : Nat) (a : Bc) : Prop where
  c0 : w.cell? ⟨b, 0, none⟩ = some (.int .i64 a.kind)
  c2 : w.cell? ⟨b, 2, none⟩ = some (.int .i64 a.at_)
  c3 : w.cell? ⟨b, 3, none⟩ = some (.int .i64 a.off)
  c4 : w.cell? ⟨b, 4, none⟩ = some (.int .u8 (a.c.toNat : Int))
  c5 : w.cell? ⟨b, 5, none⟩ = some (.int .u32 (a.mask : Int))
theorem Bx.of (w : World) (a : Bc) (dd : Nat) : Bx (w.alloc (.cells #[.int .i64 a.kind, .int .i64 (dd : Int), .int .i64 a.at_, .int .i64 a.off, .int .u8 (a.c.toNat : Int), .int .u32 (a.mask : Int), .slice a.KA a.ks.length a.kc] 33)) w.heap.size dd a := by
  have h := heap_alloc_new w (.cells #[.int .i64 a.kind, .int .i64 (dd : Int), .int .i64 a.at_, .int .i64 a.off, .int .u8 (a.c.toNat : Int), .int .u32 (a.mask : Int), .slice a.KA a.ks.length a.kc] 33)
  exact ⟨by rw [cell_of_row _ _ _ _ _ _ h]; rfl, by rw [cell_of_row _ _ _ _ _ _ h]; rfl, by rw [cell_of_row _ _ _ _ _ _ h]; rfl, by rw [cell_of_row _ _ _ _ _ _ h]; rfl, by rw [cell_of_row _ _ _ _ _ _ h]; rfl⟩
end Go.Proofs.Ytjjoeaneaibklaa

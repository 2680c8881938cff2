/-
  Texts' pieces one behind the other, cut anywhere: plain mathematics. No condition.
-/
import Derived.Test.YtpijfghklgmefaaDoorFsc
import Derived.Test.YtpijfghklgmefaaDoorFrr
namespace Go.Proofs.YtpijfghklgmefaaDoor
open Go.RowKit Go.Proofs
set_option linter.unusedVariables false

theorem cutN_room (long : Nat) : ∀ (k : Nat) (a : Bool) (s : W32) (b : List UInt8) (j : Nat) (p : List UInt8), b.length ≤ k * long → (k - 1) * long ≤ b.length → (cutN long k a s b)[j]? = some p → p.length ≤ long + 7 ∧ (j + 1 < k → p.length = long + 7)
  | 0, _, _, _, j, p, _, _, h => by simp [cutN] at h
  | 1, a, s, b, j, p, h1, h2, h => by
    rw [cutN] at h
    cases j with
    | zero =>
      simp at h
      subst h
      rw [pcF_len]
      exact ⟨by omega, fun h => by omega⟩
    | succ j => simp at h
  | k + 2, a, s, b, j, p, h1, h2, h => by
    have e1 : (k + 2) * long = (k + 1) * long + long := by rw [show k + 2 = (k + 1) + 1 from rfl, Nat.add_mul (k + 1) 1, Nat.one_mul]
    have e2 : (k + 2 - 1) * long = k * long + long := by rw [show k + 2 - 1 = k + 1 from by omega, Nat.add_mul, Nat.one_mul]
    rw [cutN] at h
    cases j with
    | zero =>
      simp at h
      subst h
      rw [pcF_len, List.length_take]
      exact ⟨by omega, fun h => by omega⟩
    | succ j =>
      rw [List.getElem?_cons_succ] at h
      have h3 := cutN_room long (k + 1) _ _ _ j p (by rw [List.length_drop]; omega) (by rw [List.length_drop, Nat.add_sub_cancel]; omega) h
      exact ⟨h3.1, fun h => h3.2 (by omega)⟩
theorem cutF_room {long : Nat} (h0 : 0 < long) {b : List UInt8} {j : Nat} {p : List UInt8} (h : (cutF long b)[j]? = some p) : p.length ≤ long + 7 ∧ (j + 1 < manyF long b.length → p.length = long + 7) := by
  refine cutN_room long _ _ _ b j p (manyF_le h0) ?_ h
  have h1 := manyF_pos long b.length
  rcases Nat.eq_zero_or_pos (manyF long b.length - 1) with h2 | h2
  · rw [h2, Nat.zero_mul]; omega
  · have h3 := manyF_lt h0 (n := b.length) (i := manyF long b.length - 2) (by omega)
    rw [show manyF long b.length - 2 + 1 = manyF long b.length - 1 from by omega] at h3
    omega
/-- How many pieces the first so many texts have. -/
def lenT (long : Nat) (L : List (List UInt8)) (j : Nat) : Nat := ((L.take j).flatMap (cutF long)).length
/-- Where the texts' pieces end. -/
def endsT (long : Nat) (L : List (List UInt8)) (i : Nat) : List Nat := (List.range i).map fun j => lenT long L (j + 1)
theorem lenT_zero (long : Nat) (L : List (List UInt8)) : lenT long L 0 = 0 := by simp [lenT]
theorem flat_next {long : Nat} {L : List (List UInt8)} {j : Nat} {r : List UInt8} (h : L[j]? = some r) : (L.take (j + 1)).flatMap (cutF long) = (L.take j).flatMap (cutF long) ++ cutF long r := by
  rw [List.take_add_one, h, List.flatMap_append]
  simp
theorem lenT_next {long : Nat} {L : List (List UInt8)} {j : Nat} {r : List UInt8} (h : L[j]? = some r) : lenT long L (j + 1) = lenT long L j + manyF long r.length := by
  rw [lenT, flat_next h, List.length_append, cutF_len]; rfl
theorem endsT_next (long : Nat) (L : List (List UInt8)) (i : Nat) : endsT long L (i + 1) = endsT long L i ++ [lenT long L (i + 1)] := by
  rw [endsT, List.range_succ, List.map_append]; rfl
theorem endsT_len (long : Nat) (L : List (List UInt8)) (i : Nat) : (endsT long L i).length = i := by simp [endsT]
theorem endsT_get {long : Nat} {L : List (List UInt8)} {i j : Nat} (h : j < i) : (ncells (endsT long L i))[j]? = some (.int .i64 ((lenT long L (j + 1) : Nat) : Int)) := by
  simp [ncells, endsT, h]
theorem lenT_ge (long : Nat) (L : List (List UInt8)) : ∀ j, j ≤ L.length → j ≤ lenT long L j
  | 0, _ => Nat.zero_le _
  | j + 1, h => by
    have h1 := lenT_ge long L j (by omega)
    rw [lenT_next (List.getElem?_eq_getElem (show j < L.length by omega))]
    have := manyF_pos long (L[j]'(by omega)).length
    omega
theorem torn_fin {long : Nat} (h0 : 0 < long) (hl : long < 65536) (L : List (List UInt8)) (at_ W : Nat) (hW : W ≤ L.length) (h1 : lenT long L W ≤ at_) (h2 : ∀ j, W < j → j ≤ L.length → at_ < lenT long L j) (hat : at_ ≤ lenT long L L.length) :
    allF ((L.flatMap (cutF long)).take at_) = (L.take W, lenT long L W) ∧ joinF (((L.flatMap (cutF long)).drop (lenT long L W)).take (at_ - lenT long L W)) = ([], 0, 170) := by
  have e : L.flatMap (cutF long) = (L.take W).flatMap (cutF long) ++ (L.drop W).flatMap (cutF long) := by rw [← List.flatMap_append, List.take_append_drop]
  have ed : (L.flatMap (cutF long)).drop (lenT long L W) = (L.drop W).flatMap (cutF long) := by rw [e, lenT, List.drop_left]
  have et : (L.flatMap (cutF long)).take at_ = (L.take W).flatMap (cutF long) ++ ((L.drop W).flatMap (cutF long)).take (at_ - lenT long L W) := by
    rw [e, List.take_append]
    rw [List.take_of_length_le (by exact h1)]
    rfl
  have hj : joinF (((L.drop W).flatMap (cutF long)).take (at_ - lenT long L W)) = ([], 0, 170) := by
    rcases Nat.lt_or_ge W L.length with hlt | hge
    · have h3 := h2 (W + 1) (by omega) hlt
      have hg := List.getElem?_eq_getElem hlt
      rw [lenT_next hg] at h3
      rw [List.drop_eq_getElem_cons hlt, List.flatMap_cons, List.take_append_of_le_length (by rw [cutF_len]; omega)]
      exact joinF_torn hl _ (by omega)
    · rw [List.drop_eq_nil_of_le hge, List.flatMap_nil, List.take_nil]
      rfl
  refine ⟨?_, by rw [ed]; exact hj⟩
  rw [allF, et]
  have h3 := allL_cut h0 hl (r := ((L.drop W).flatMap (cutF long)).take (at_ - lenT long L W)) (by rw [hj]; decide) (L.take W)
  rw [h3]
  · rfl
  · rw [List.length_append, List.length_take, Nat.min_eq_left hW]
    have := lenT_ge long L W hW
    unfold lenT at this
    omega
theorem flat_small {long : Nat} (L : List (List UInt8)) (h : ∀ r ∈ L, r.length ≤ 200) : (L.flatMap (cutF long)).flatten.length ≤ L.length * 1607 := by
  induction L with
  | nil => simp
  | cons b L ih =>
    have h1 := ih fun r hr => h r (List.mem_cons_of_mem _ hr)
    have h2 := h b (List.mem_cons_self ..)
    have h3 := cutF_flat long b
    rw [List.flatMap_cons, List.flatten_append, List.length_append, List.length_cons, Nat.add_mul]
    omega
theorem many_small {long : Nat} (L : List (List UInt8)) (h : ∀ r ∈ L, r.length ≤ 200) : (L.flatMap (cutF long)).length ≤ L.length * 201 := by
  induction L with
  | nil => simp
  | cons b L ih =>
    have h1 := ih fun r hr => h r (List.mem_cons_of_mem _ hr)
    have h2 := h b (List.mem_cons_self ..)
    have h3 := manyF_small long b.length
    rw [List.flatMap_cons, List.length_append, List.length_cons, Nat.add_mul, cutF_len]
    omega
theorem Gr.part17 {w : World} {A : Option Addr} {n c : Nat} {rs : List (List UInt8)} (h : Gr w A n c rs) (lo hi : Nat) (h1 : lo ≤ hi) (h2 : hi ≤ n) : Gr w (if c = lo then A else A.map fun x => x.add lo) (hi - lo) (c - lo) ((rs.drop lo).take (hi - lo)) := by
  have hc := h.capLe
  split
  · have e2 : hi - lo = 0 := by omega
    rw [e2, List.take_zero]
    exact ⟨⟨[], Sl.empty w 1 A (c - lo) (by omega), fun i r h => by simp at h⟩, rfl⟩
  · exact h.sub lo hi (c - lo) h1 h2 (by omega) (by omega)
theorem Gr.to17 {w : World} {A : Option Addr} {n c : Nat} {rs : List (List UInt8)} (h : Gr w A n c rs) (m : Nat) (hm : m ≤ n) : Gr w A m c (rs.take m) := by
  have hc := h.capLe
  obtain ⟨vs, hs, hr⟩ := h.ex
  have hl := hs.len
  rw [Nat.mul_one] at hl
  refine ⟨⟨vs.take m, ⟨by rw [List.length_take, hl]; omega, by omega, hc.2, fun j u hu => ?_⟩, fun i r hi => ?_⟩, by rw [List.length_take, h.len]; omega⟩
  · rw [List.getElem?_take] at hu
    split at hu
    · exact hs.cell j u hu
    · cases hu
  · rw [List.getElem?_take] at hi
    split at hi
    · rename_i him
      obtain ⟨A', c', e1, e2⟩ := hr i r hi
      exact ⟨A', c', by rw [List.getElem?_take, if_pos him]; exact e1, e2⟩
    · cases hi
end Go.Proofs.YtpijfghklgmefaaDoor

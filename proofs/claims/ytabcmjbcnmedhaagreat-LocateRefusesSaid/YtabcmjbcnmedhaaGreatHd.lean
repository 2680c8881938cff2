/-
  Layer 7's mathematics: parity goes with changes; which rows of parity are off. No program.
  The contracts of the document's Scale (in new memory), Sum and Spread of layer 7. No condition but bounds. (Written by gen_dnb.py.)
  The contract of the document's Update of layer 7. No condition but bounds. (Written by gen_dnc.py.)
  The contracts of the document's Off and Ints of layer 7. No condition but bounds. (Written by gen_dnd.py.)
-/
import Derived.Test.YtabcmjbcnmedhaaGreatHc
import Derived.Test.YtabcmjbcnmedhaaGreatHa
namespace Go.Proofs.YtabcmjbcnmedhaaGreat
open Go.RowKit Go.Proofs
set_option linter.unusedVariables false

/-- What a change of data row j changes in each row. -/
def spreadL (k j : Nat) (ch : List UInt8) (n : Nat) : List (List UInt8) := (List.range n).map fun i => ch.map (gm (facB k i j))
theorem spreadL_length (k j : Nat) (ch : List UInt8) (n : Nat) : (spreadL k j ch n).length = n := by simp [spreadL]
theorem spreadL_next (k j : Nat) (ch : List UInt8) (n : Nat) : spreadL k j ch n ++ [ch.map (gm (facB k n j))] = spreadL k j ch (n + 1) := by simp [spreadL, List.range_succ]
theorem spreadL_getD (k j : Nat) (ch : List UInt8) (n i : Nat) (h : i < n) : (spreadL k j ch n).getD i [] = ch.map (gm (facB k i j)) := by simp [spreadL, h]
/-- The first i rows of parity behind a change. -/
def updL (k j : Nat) (old now : List UInt8) (par : List (List UInt8)) (i : Nat) : List (List UInt8) := (List.range i).map fun i => addL (par.getD i []) ((addL old now).map (gm (facB k (k + i) j)))
theorem updL_length (k j : Nat) (old now : List UInt8) (par : List (List UInt8)) (i : Nat) : (updL k j old now par i).length = i := by simp [updL]
theorem updL_next (k j : Nat) (old now : List UInt8) (par : List (List UInt8)) (i : Nat) : updL k j old now par i ++ [addL (par.getD i []) ((addL old now).map (gm (facB k (k + i) j)))] = updL k j old now par (i + 1) := by simp [updL, List.range_succ]
theorem addL_len (a b : List UInt8) : (addL a b).length = min a.length b.length := List.length_zipWith
theorem addL_at {a b : List UInt8} {p : Nat} (ha : p < a.length) (hb : p < b.length) : (addL a b)[p]? = some (a.getD p 0 ^^^ b.getD p 0) := by
  rw [addL, List.getElem?_zipWith]
  simp [ha, hb]
theorem getD_map_gm (c : UInt8) (l : List UInt8) (p : Nat) (h : p < l.length) : (l.map (gm c)).getD p 0 = gm c (l.getD p 0) := by simp [h]
theorem set_getD_same {α : Type} (l : List α) (j : Nat) (x d : α) (h : j < l.length) : (l.set j x).getD j d = x := by
  rw [List.getD_eq_getElem?_getD, List.getElem?_set_self h]
  rfl
theorem set_getD_ne {α : Type} (l : List α) (j i : Nat) (x d : α) (h : i ≠ j) : (l.set j x).getD i d = l.getD i d := by
  rw [List.getD_eq_getElem?_getD, List.getD_eq_getElem?_getD, List.getElem?_set_ne (fun e => h e.symm)]

/-- Rows of one length. -/
structure Lev (k V : Nat) (ds : List (List UInt8)) : Prop where
  len : ds.length = k
  wid : ∀ i, i < k → (ds.getD i []).length = V
section
variable {k V : Nat} {ds : List (List UInt8)}
theorem Lev.set (h : Lev k V ds) {j : Nat} {now : List UInt8} (hn : now.length = V) : Lev k V (ds.set j now) :=
  ⟨by rw [List.length_set]; exact h.len, fun i hi => by
    by_cases hij : i = j
    · subst hij
      rw [set_getD_same _ _ _ _ (by rw [h.len]; exact hi), hn]
    · rw [set_getD_ne _ _ _ _ _ hij]
      exact h.wid i hi⟩
theorem Lev.level (h : Lev k V ds) : levelB ds = true := decide_eq_true fun j hj => by rw [h.wid j (by rw [← h.len]; exact hj), h.wid 0 (by have := h.len; omega)]
theorem Lev.shard_len (h : Lev k V ds) (hk : 0 < k) (x : Nat) : (shard k ds x).length = V := by rw [shard_length, h.wid 0 hk]
/-- One row is changed: what becomes of a shard at a place. -/
theorem Lev.set_at (h : Lev k V ds) {j : Nat} (hj : j < k) {now : List UInt8} (hn : now.length = V) (x p : Nat) (hp : p < V) :
    (shard k (ds.set j now) x).getD p 0 = (shard k ds x).getD p 0 ^^^ gm (facB k x j) ((ds.getD j []).getD p 0 ^^^ now.getD p 0) := by
  have h0 := h.wid 0 (by omega)
  have h0' := (h.set (j := j) hn).wid 0 (by omega)
  have e1 := shard_at k ds x p (by omega)
  have e2 := shard_at k (ds.set j now) x p (by omega)
  rw [List.getD_eq_getElem?_getD, List.getD_eq_getElem?_getD, e1, e2, Option.getD_some, Option.getD_some]
  have e3 : gm (facB k x j) ((ds.getD j []).getD p 0 ^^^ now.getD p 0) = xs k fun i => if i = j then gm (facB k x j) ((ds.getD j []).getD p 0 ^^^ now.getD p 0) else 0 := by
    rw [xs_one j k hj (fun i _ hij => if_neg hij), if_pos rfl]
  rw [e3, ← xs_xor]
  refine xs_congr k fun i hi => ?_
  by_cases hij : i = j
  · subst hij
    rw [if_pos rfl, set_getD_same _ _ _ _ (by rw [h.len]; exact hi), gm_xor, ← UInt8.xor_assoc, UInt8.xor_self, UInt8.zero_xor]
  · rw [if_neg hij, set_getD_ne _ _ _ _ _ hij, UInt8.xor_zero]
theorem Lev.shard_set (h : Lev k V ds) {j : Nat} (hj : j < k) {now : List UInt8} (hn : now.length = V) (x : Nat) :
    addL (shard k ds x) ((addL (ds.getD j []) now).map (gm (facB k x j))) = shard k (ds.set j now) x := by
  have hk : 0 < k := by omega
  have l1 := h.shard_len hk x
  have l2 := (h.set (j := j) hn).shard_len hk x
  have l3 := h.wid j hj
  have l4 : (addL (ds.getD j []) now).length = V := by rw [addL_len]; omega
  refine List.ext_getElem? fun p => ?_
  by_cases hp : p < V
  · have e1 := h.set_at hj hn x p hp
    have e2 : (addL (ds.getD j []) now).getD p 0 = (ds.getD j []).getD p 0 ^^^ now.getD p 0 := by rw [List.getD_eq_getElem?_getD, addL_at (by omega) (by omega)]; rfl
    have e3 : (shard k (ds.set j now) x)[p]? = some ((shard k (ds.set j now) x).getD p 0) := by simp [show p < (shard k (ds.set j now) x).length by omega]
    rw [addL_at (by omega) (by rw [List.length_map]; omega), getD_map_gm _ _ _ (by omega), e2, e3, e1]
  · rw [List.getElem?_eq_none (by rw [addL_len, List.length_map]; omega), List.getElem?_eq_none (by omega)]
/-- Parity that goes with a change is what it would be, made anew. -/
theorem Lev.upd (h : Lev k V ds) {j m : Nat} (hj : j < k) {now : List UInt8} (hn : now.length = V) : updL k j (ds.getD j []) now (parL k ds m) m = parL k (ds.set j now) m := by
  refine List.map_congr_left fun i hi => ?_
  have hi := List.mem_range.1 hi
  rw [show (parL k ds m).getD i [] = shard k ds (k + i) from by simp [parL, hi]]
  exact h.shard_set hj hn (k + i)
end

/-- Is a row of parity off? -/
def isOff (k : Nat) (rs : List (List UInt8)) (i : Nat) : Bool := !decide (shard k (rs.take k) (k + i) = rs.getD (k + i) [])
theorem isOff_t {k i : Nat} {rs : List (List UInt8)} (h : shard k (rs.take k) (k + i) ≠ rs.getD (k + i) []) : isOff k rs i = true := by rw [isOff, decide_eq_false h]; rfl
theorem isOff_f {k i : Nat} {rs : List (List UInt8)} (h : shard k (rs.take k) (k + i) = rs.getD (k + i) []) : isOff k rs i = false := by rw [isOff, decide_eq_true h]; rfl
/-- The first i of the numbers of rows of parity that are off. -/
def offL (k : Nat) (rs : List (List UInt8)) (i : Nat) : List Nat := ((List.range i).filter (isOff k rs)).map (k + ·)
theorem offL_next (k : Nat) (rs : List (List UInt8)) (i : Nat) : offL k rs (i + 1) = if isOff k rs i = true then offL k rs i ++ [k + i] else offL k rs i := by
  rw [offL, offL, List.range_succ, List.filter_append]
  by_cases h : isOff k rs i = true
  · rw [if_pos h, List.filter_cons_of_pos h]
    simp
  · rw [if_neg h, List.filter_cons_of_neg h]
    simp
theorem offL_length (k : Nat) (rs : List (List UInt8)) (i : Nat) : (offL k rs i).length ≤ i := by
  have := List.length_filter_le (isOff k rs) (List.range i)
  rw [List.length_range] at this
  rw [offL, List.length_map]
  exact this
theorem offL_none {k m : Nat} {rs : List (List UInt8)} (h : ∀ i, i < m → shard k (rs.take k) (k + i) = rs.getD (k + i) []) : offL k rs m = [] := by
  rw [offL, List.filter_eq_nil_iff.2, List.map_nil]
  intro i hi hd
  rw [isOff_f (h i (List.mem_range.1 hi))] at hd
  cases hd
theorem offL_every {k m : Nat} {rs : List (List UInt8)} (h : ∀ i, i < m → shard k (rs.take k) (k + i) ≠ rs.getD (k + i) []) : offL k rs m = (List.range m).map (k + ·) := by
  rw [offL, List.filter_eq_self.2]
  intro i hi
  exact isOff_t (h i (List.mem_range.1 hi))
theorem filter_one (p : Nat → Bool) (a : Nat) (hp : p a = true) (hq : ∀ i, i ≠ a → p i = false) : ∀ m, a < m → (List.range m).filter p = [a]
  | 0, h => absurd h (by omega)
  | m + 1, h => by
    rw [List.range_succ, List.filter_append]
    by_cases ha : a = m
    · subst ha
      rw [List.filter_eq_nil_iff.2 (fun i hi hd => by
        have := List.mem_range.1 hi
        rw [hq i (by omega)] at hd
        cases hd), List.filter_cons_of_pos hp]
      rfl
    · rw [filter_one p a hp hq m (by omega), List.filter_cons_of_neg (by rw [hq m (fun e => ha e.symm)]; decide)]
      rfl
theorem offL_one {k m a : Nat} {rs : List (List UInt8)} (ha : a < m) (h : ∀ i, i < m → i ≠ a → shard k (rs.take k) (k + i) = rs.getD (k + i) []) (hne : shard k (rs.take k) (k + a) ≠ rs.getD (k + a) []) : offL k rs m = [k + a] := by
  have hf : (List.range m).filter (isOff k rs) = (List.range m).filter fun i => decide (i = a) := by
    apply List.filter_congr
    intro i hi
    by_cases hia : i = a
    · rw [hia, isOff_t hne, decide_eq_true rfl]
    · rw [isOff_f (h i (List.mem_range.1 hi) hia), decide_eq_false hia]
  rw [offL, hf, filter_one _ a (decide_eq_true rfl) (fun i hi => decide_eq_false hi) m ha]
  rfl
/-- A row of parity hangs on every data row. -/
theorem facB_ne {k i j : Nat} (hi : k ≤ i) (hj : j < k) (h : i < 256) : facB k i j ≠ 0 := by
  rw [facB, if_neg (by omega)]
  intro e
  have hx : UInt8.ofNat i ^^^ UInt8.ofNat j ≠ 0 := by
    intro h0
    have h1 : UInt8.ofNat i = UInt8.ofNat j := UInt8.xor_eq_zero_iff.1 h0
    have h2 := congrArg UInt8.toNat h1
    rw [UInt8.toNat_ofNat', UInt8.toNat_ofNat'] at h2
    omega
  have h2 := gm_ginv _ hx
  rw [e, gm_zero] at h2
  exact absurd h2 (by decide)
/-- Rows that hold: data, and what the coder makes of it. -/
theorem holds_none {k m : Nat} {ds : List (List UInt8)} (hl : ds.length = k) : offL k (ds ++ parL k ds m) m = [] := offL_none fun i hi => by
  rw [List.take_left' hl, List.getD_eq_getElem?_getD, List.getElem?_append_right (by omega), hl, show k + i - k = i from by omega]
  simp [parL, hi]
/-- A data row that is changed has every row of parity off. -/
theorem Lev.tells {k m V j p : Nat} {ds : List (List UInt8)} (h : Lev k V ds) (hj : j < k) (hp : p < V) {now : List UInt8} (hn : now.length = V) (hne : (ds.getD j []).getD p 0 ^^^ now.getD p 0 ≠ 0) (h3 : k + m ≤ 255) :
    offL k ((ds ++ parL k ds m).set j now) m = (List.range m).map (k + ·) := offL_every fun i hi e => by
  rw [List.set_append_left _ _ (by rw [h.len]; exact hj), List.take_left' (by rw [List.length_set]; exact h.len), List.getD_eq_getElem?_getD (i := k + i), List.getElem?_append_right (by rw [List.length_set, h.len]; omega), List.length_set, h.len, show k + i - k = i from by omega] at e
  have e1 : ((parL k ds m)[i]?).getD [] = shard k ds (k + i) := by simp [parL, hi]
  rw [e1] at e
  have e2 := h.set_at hj hn (k + i) p hp
  rw [e] at e2
  have e3 : gm (facB k (k + i) j) ((ds.getD j []).getD p 0 ^^^ now.getD p 0) = 0 := by
    have := congrArg (fun u => (shard k ds (k + i)).getD p 0 ^^^ u) e2
    simpa [← UInt8.xor_assoc] using this.symm
  exact gm_ne (facB_ne (by omega) hj (by omega)) hne e3
/-- A row of parity that is changed is off itself, alone. -/
theorem tells_parity {k m a : Nat} {ds : List (List UInt8)} (hl : ds.length = k) (ha : a < m) {now : List UInt8} (hne : now ≠ shard k ds (k + a)) :
    offL k ((ds ++ parL k ds m).set (k + a) now) m = [k + a] := by
  have e0 : (ds ++ parL k ds m).set (k + a) now = ds ++ (parL k ds m).set a now := by rw [List.set_append_right _ _ (by omega), hl, show k + a - k = a from by omega]
  have et : (ds ++ (parL k ds m).set a now).take k = ds := List.take_left' hl
  have eg : ∀ i, (ds ++ (parL k ds m).set a now).getD (k + i) [] = ((parL k ds m).set a now).getD i [] := fun i => by
    rw [List.getD_eq_getElem?_getD, List.getElem?_append_right (by omega), hl, show k + i - k = i from by omega, List.getD_eq_getElem?_getD]
  rw [e0]
  refine offL_one ha (fun i hi hia => ?_) ?_
  · rw [et, eg, set_getD_ne _ _ _ _ _ hia]
    simp [parL, hi]
  · rw [et, eg, set_getD_same _ _ _ _ (by rw [parL_length]; exact ha)]
    exact fun e => hne e.symm
end Go.Proofs.YtabcmjbcnmedhaaGreat

namespace Go.Proofs.YtabcmjbcnmedhaaGreat
open Go.RowKit Go.Proofs
set_option linter.unusedVariables false

end Go.Proofs.YtabcmjbcnmedhaaGreat

namespace Go.Proofs.YtabcmjbcnmedhaaGreat
open Go.RowKit Go.Proofs
set_option linter.unusedVariables false

/-- May parity go with this change? -/
def UpdOk (k m : Nat) (j : Int) (old now : List UInt8) (par : List (List UInt8)) : Prop := (0 ≤ j ∧ j < (k : Int)) ∧ old.length = now.length ∧ par.length = m ∧ ∀ i, i < m → (par.getD i []).length = old.length

end Go.Proofs.YtabcmjbcnmedhaaGreat

namespace Go.Proofs.YtabcmjbcnmedhaaGreat
open Go.RowKit Go.Proofs
set_option linter.unusedVariables false

theorem Gr.takeK {w : World} {A : Option Addr} {n c cnt : Nat} {rs : List (List UInt8)} (h : Gr w A n c rs) (hc : cnt ≤ n) : Gr w A cnt c (rs.take cnt) := by
  obtain ⟨vs, hs, hr⟩ := h.ex
  have hl := hs.len
  have hcap := hs.cap
  refine ⟨⟨vs.take cnt, ⟨by rw [List.length_take]; omega, by omega, hs.top, fun j u hu => ?_⟩, fun i r hi => ?_⟩, by rw [List.length_take, h.len]; omega⟩
  · rw [List.getElem?_take] at hu
    split at hu
    · exact hs.cell j u hu
    · cases hu
  · rw [List.getElem?_take] at hi
    split at hi
    · rename_i hlt
      obtain ⟨A', c', h1, h2⟩ := hr i r hi
      exact ⟨A', c', by rw [List.getElem?_take, if_pos hlt]; exact h1, h2⟩
    · cases hi
theorem even_take {rs : List (List UInt8)} {k n : Nat} (h : evenB rs (n : Int) = true) (hk : k ≤ n) : rs.length = n ∧ levelB (rs.take k) = true := by
  rw [evenB, Bool.and_eq_true] at h
  have hl := of_decide_eq_true h.1
  have hl' : rs.length = n := by omega
  have hv := of_decide_eq_true h.2
  have hg : ∀ a, a < k → (rs.take k).getD a [] = rs.getD a [] := fun a ha => by simp [ha]
  refine ⟨hl', decide_eq_true fun j hj => ?_⟩
  rw [List.length_take] at hj
  rw [hg j (by omega), hg 0 (by omega)]
  exact hv j (by omega)

end Go.Proofs.YtabcmjbcnmedhaaGreat

/-
  Layer 8's mathematics of a search: rows that stand but for those of a set, what is made of the others, one column of them; all rising lists of so many numbers, gone through in order. No program.
-/
import Derived.Test.YtabcmjbcnmedhaaGreatDqa
import Derived.Test.YtabcmjbcnmedhaaGreatHh
import Derived.Test.YtabcmjbcnmedhaaGreatHe
namespace Go.Proofs.YtabcmjbcnmedhaaGreat
open Go.RowKit Go.Proofs
set_option linter.unusedVariables false

/-- Rows are those that a coder makes of data, but for those of a set. -/
def Agr (k n : Nat) (rs ds : List (List UInt8)) (S : List Nat) : Prop := ∀ i, i < n → i ∉ S → rs.getD i [] = shard k ds i

/-- Rows of which those of a set are taken out. -/
def wipeL (rs : List (List UInt8)) (S : List Nat) (j : Nat) : List (List UInt8) := (List.range rs.length).map fun i => if i < j ∧ i ∈ S then [] else rs.getD i []
theorem wipeL_length (rs : List (List UInt8)) (S : List Nat) (j : Nat) : (wipeL rs S j).length = rs.length := by simp [wipeL]
theorem wipeL_at (rs : List (List UInt8)) (S : List Nat) (j i : Nat) (h : i < rs.length) : (wipeL rs S j)[i]? = some (if i < j ∧ i ∈ S then [] else rs.getD i []) := by simp [wipeL, h]
theorem wipeL_getD (rs : List (List UInt8)) (S : List Nat) (j i : Nat) (h : i < rs.length) : (wipeL rs S j).getD i [] = if i < j ∧ i ∈ S then [] else rs.getD i [] := by
  rw [List.getD_eq_getElem?_getD, wipeL_at rs S j i h, Option.getD_some]
theorem wipeL_zero (rs : List (List UInt8)) (S : List Nat) : wipeL rs S 0 = rs := by
  apply List.ext_getElem?
  intro i
  by_cases h : i < rs.length
  · rw [wipeL_at rs S 0 i h, if_neg (fun q => Nat.not_lt_zero _ q.1), List.getD_eq_getElem?_getD, List.getElem?_eq_getElem h, Option.getD_some]
  · rw [List.getElem?_eq_none (by rw [wipeL_length]; omega), List.getElem?_eq_none (by omega)]
theorem wipeL_in (rs : List (List UInt8)) (S : List Nat) (j : Nat) (hj : j < rs.length) (hm : j ∈ S) : (wipeL rs S j).set j [] = wipeL rs S (j + 1) := by
  apply List.ext_getElem?
  intro i
  rw [List.getElem?_set]
  by_cases h : i < rs.length
  · rw [wipeL_at rs S j i h, wipeL_at rs S (j + 1) i h]
    by_cases e : j = i
    · subst e
      rw [if_pos rfl, wipeL_length, if_pos hj, if_pos ⟨by omega, hm⟩]
    · rw [if_neg e]
      by_cases q : i < j ∧ i ∈ S
      · rw [if_pos q, if_pos ⟨by omega, q.2⟩]
      · rw [if_neg q, if_neg (fun q' => q ⟨by omega, q'.2⟩)]
  · rw [if_neg (by omega), List.getElem?_eq_none (by rw [wipeL_length]; omega), List.getElem?_eq_none (by rw [wipeL_length]; omega)]
theorem wipeL_out (rs : List (List UInt8)) (S : List Nat) (j : Nat) (hm : j ∉ S) : wipeL rs S (j + 1) = wipeL rs S j := by
  unfold wipeL
  refine List.map_congr_left fun i _ => ?_
  by_cases e : i = j
  · subst e
    rw [if_neg (fun q => hm q.2), if_neg (fun q => hm q.2)]
  · by_cases q : i < j ∧ i ∈ S
    · rw [if_pos q, if_pos ⟨by omega, q.2⟩]
    · rw [if_neg q, if_neg (fun q' => q ⟨by omega, q'.2⟩)]
theorem wipe_count (rs : List (List UInt8)) (S : List Nat) (n : Nat) (hl : rs.length = n) (hne : ∀ i, i < n → 0 < (rs.getD i []).length) : n ≤ (thereL (wipeL rs S n) n).length + S.length := by
  have h1 : ((List.range n).filter fun i => decide (i ∈ S)).length ≤ S.length := by
    have hsub : ((List.range n).filter fun i => decide (i ∈ S)) ⊆ S := fun z hz => of_decide_eq_true (List.mem_filter.1 hz).2
    have hnd : ((List.range n).filter fun i => decide (i ∈ S)).Nodup := (List.nodup_range (n := n)).filter _
    exact hnd.length_le_of_subset hsub
  have h2 : thereL (wipeL rs S n) n = (List.range n).filter fun i => !decide (i ∈ S) := by
    unfold thereL
    apply List.filter_congr
    intro i hi
    have hin := List.mem_range.1 hi
    rw [wipeL_getD _ _ _ _ (by omega)]
    by_cases hm : i ∈ S
    · simp [hm, hin]
    · rw [if_neg (fun q => hm q.2), decide_eq_true (hne i hin), decide_eq_false hm]
      rfl
  rw [h2]
  have h3 : ∀ l : List Nat, (l.filter fun i => decide (i ∈ S)).length + (l.filter fun i => !decide (i ∈ S)).length = l.length := by
    intro l
    induction l with
    | nil => rfl
    | cons x l ih =>
      by_cases hx : x ∈ S
      · rw [List.filter_cons_of_pos (by simpa using hx), List.filter_cons_of_neg (by simpa using hx), List.length_cons, List.length_cons]
        omega
      · rw [List.filter_cons_of_neg (by simpa using hx), List.filter_cons_of_pos (by simpa using hx), List.length_cons, List.length_cons]
        omega
  have := h3 (List.range n)
  rw [List.length_range] at this
  omega

/-- Rows of one length, all with bytes; few of them are taken out. -/
structure Wip (k m V : Nat) (rs : List (List UInt8)) (S : List Nat) : Prop where
  lev : Lev (k + m) V rs
  k1 : 1 ≤ k
  v1 : 0 < V
  few : S.length ≤ m
section
variable {k m V : Nat} {rs ds : List (List UInt8)} {S : List Nat}
theorem Wip.out (h : Wip k m V rs S) {i : Nat} (hi : i < k + m) (hs : i ∉ S) : (wipeL rs S (k + m)).getD i [] = rs.getD i [] := by
  rw [wipeL_getD _ _ _ _ (by rw [h.lev.len]; exact hi), if_neg (fun q => hs q.2)]
theorem Wip.in_ (h : Wip k m V rs S) {i : Nat} (hi : i < k + m) (hs : i ∈ S) : (wipeL rs S (k + m)).getD i [] = [] := by
  rw [wipeL_getD _ _ _ _ (by rw [h.lev.len]; exact hi), if_pos ⟨hi, hs⟩]
theorem Wip.pos (h : Wip k m V rs S) {i : Nat} (hi : i < k + m) (hp : ((wipeL rs S (k + m)).getD i []).length ≠ 0) : i ∉ S := fun hs => hp (by rw [h.in_ hi hs]; rfl)
theorem Wip.enough (h : Wip k m V rs S) : k ≤ (thereL (wipeL rs S (k + m)) (k + m)).length := by
  have := wipe_count rs S (k + m) h.lev.len (fun i hi => by rw [h.lev.wid i hi]; exact h.v1)
  have := h.few
  omega
theorem Wip.there (h : Wip k m V rs S) {a : Nat} (ha : a < (thereL (wipeL rs S (k + m)) (k + m)).length) : (thereL (wipeL rs S (k + m)) (k + m)).getD a 0 < k + m ∧ (thereL (wipeL rs S (k + m)) (k + m)).getD a 0 ∉ S := by
  have h1 := thereL_lt ha
  have h2 := thereL_pos ha
  exact ⟨h1, h.pos h1 (by omega)⟩
theorem Wip.wid (h : Wip k m V rs S) {a : Nat} (ha : a < (thereL (wipeL rs S (k + m)) (k + m)).length) : ((wipeL rs S (k + m)).getD ((thereL (wipeL rs S (k + m)) (k + m)).getD a 0) []).length = V := by
  obtain ⟨h1, h2⟩ := h.there ha
  rw [h.out h1 h2, h.lev.wid _ h1]
theorem Wip.right (h : Wip k m V rs S) : rightX k m (wipeL rs S (k + m)) = 0 := by
  have he := h.enough
  have h1 := h.k1
  have hl : (wipeL rs S (k + m)).length = k + m := by rw [wipeL_length, h.lev.len]
  have hlv : levelT (wipeL rs S (k + m)) = true := decide_eq_true fun a ha => by
    rw [hl] at ha ⊢
    rw [h.wid ha, h.wid (by omega)]
  rw [rightX, if_neg (by rw [hl]; simp), if_neg (by rw [hlv]; decide), hl, if_neg (by omega)]
/-- What is made anew of the rows that are left. -/
def madeL (k m : Nat) (X : Mx) (rs : List (List UInt8)) (S : List Nat) : List (List UInt8) :=
  fillL (wipeL rs S (k + m)) (shard k (dataL k ((wipeL rs S (k + m)).getD ((thereL (wipeL rs S (k + m)) (k + m)).getD 0 0) []).length (solD k X (wipeL rs S (k + m)) ((thereL (wipeL rs S (k + m)) (k + m)).take k)))) (k + m)
theorem Wip.made_at (h : Wip k m V rs S) (X : Mx) {i : Nat} (hi : i < k + m) : (madeL k m X rs S)[i]? = some (if i ∈ S then shard k (dataL k V (solD k X (wipeL rs S (k + m)) ((thereL (wipeL rs S (k + m)) (k + m)).take k))) i else rs.getD i []) := by
  have he := h.enough
  have h1 := h.k1
  rw [madeL, h.wid (by omega), fillL_get _ _ _ _ (by rw [wipeL_length, h.lev.len]; exact hi)]
  by_cases hs : i ∈ S
  · rw [if_pos ⟨hi, by rw [h.in_ hi hs]; rfl⟩, if_pos hs]
  · rw [if_neg (fun q => by have := q.2; rw [h.out hi hs, h.lev.wid i hi] at this; have := h.v1; omega), if_neg hs, h.out hi hs]
theorem Wip.made_lev (h : Wip k m V rs S) (X : Mx) : Lev (k + m) V (madeL k m X rs S) := by
  refine ⟨by rw [madeL, fillL_length, wipeL_length, h.lev.len], fun i hi => ?_⟩
  have h1 := h.k1
  rw [List.getD_eq_getElem?_getD, h.made_at X hi, Option.getD_some]
  by_cases hs : i ∈ S
  · rw [if_pos hs, shard_length, dataL_getD _ _ _ _ (by omega), rowL_length]
  · rw [if_neg hs, h.lev.wid i hi]
/-- Rows that stand but for those of the set are made anew. -/
theorem Wip.back (h : Wip k m V rs S) {X : Mx} (hX : Alike k k (mm k X (facM k ((thereL (wipeL rs S (k + m)) (k + m)).take k))) one) (hd : Lev k V ds) (ha : Agr k (k + m) rs ds S) : madeL k m X rs S = ds ++ parL k ds m := by
  have he := h.enough
  have h1 := h.k1
  have hD : dataL k V (solD k X (wipeL rs S (k + m)) ((thereL (wipeL rs S (k + m)) (k + m)).take k)) = ds :=
    data_back hd.len hd.level (hd.wid 0 (by omega)) hX fun a hak => by
      rw [take_getD hak]
      obtain ⟨q1, q2⟩ := h.there (show a < _ by omega)
      rw [h.out q1 q2, ha _ q1 q2]
  rw [← allL_eq k m ds hd.len hd.level]
  apply List.ext_getElem?
  intro i
  by_cases hi : i < k + m
  · rw [h.made_at X hi, hD, show (allL k ds (k + m))[i]? = some (shard k ds i) by simp [allL, hi]]
    by_cases hs : i ∈ S
    · rw [if_pos hs]
    · rw [if_neg hs, ha i hi hs]
  · rw [List.getElem?_eq_none (by rw [(h.made_lev X).len]; omega), List.getElem?_eq_none (by rw [allL_length]; omega)]
theorem Wip.made_agr (h : Wip k m V rs S) (X : Mx) (he : madeL k m X rs S = ds ++ parL k ds m) (hd : Lev k V ds) : Agr k (k + m) rs ds S := fun i hi hs => by
  have h1 := h.made_at X hi
  rw [if_neg hs, he, ← allL_eq k m ds hd.len hd.level, show (allL k ds (k + m))[i]? = some (shard k ds i) by simp [allL, hi]] at h1
  injection h1 with h1
  exact h1.symm
end

/-- Rows that hold are what a coder makes of the first ones. -/
theorem holds_split {k m V : Nat} {rs : List (List UInt8)} (hl : Lev (k + m) V rs) (h : holdsB k m rs = true) : Lev k V (rs.take k) ∧ rs = rs.take k ++ parL k (rs.take k) m := by
  rw [holdsB, Bool.and_eq_true] at h
  have ho := of_decide_eq_true h.2
  have hlen := hl.len
  have e1 : ∀ i, i < m → shard k (rs.take k) (k + i) = rs.getD (k + i) [] := fun i hi => by
    by_cases q : shard k (rs.take k) (k + i) = rs.getD (k + i) []
    · exact q
    · have : k + i ∈ offL k rs m := List.mem_map.2 ⟨i, List.mem_filter.2 ⟨List.mem_range.2 hi, isOff_t q⟩, rfl⟩
      rw [ho] at this
      cases this
  refine ⟨⟨by rw [List.length_take, hlen]; omega, fun i hi => ?_⟩, ?_⟩
  · have := hl.wid i (by omega)
    rwa [List.getD_eq_getElem?_getD, List.getElem?_take, if_pos hi, ← List.getD_eq_getElem?_getD]
  · apply List.ext_getElem?
    intro i
    by_cases hi : i < k
    · rw [List.getElem?_append_left (by rw [List.length_take, hlen]; omega), List.getElem?_take, if_pos hi]
    · rw [List.getElem?_append_right (by rw [List.length_take, hlen]; omega), List.length_take, hlen, show min k (k + m) = k by omega]
      by_cases hn : i < k + m
      · rw [parL_get k (rs.take k) m (i - k) (by omega), e1 (i - k) (by omega), show k + (i - k) = i by omega, List.getD_eq_getElem?_getD, List.getElem?_eq_getElem (by omega), Option.getD_some]
      · rw [List.getElem?_eq_none (by omega), List.getElem?_eq_none (by rw [parL_length]; omega)]
/-- One byte of each row. -/
def colL (rs : List (List UInt8)) (p : Nat) : List (List UInt8) := rs.map fun r => [r.getD p 0]
theorem colL_getD (rs : List (List UInt8)) (p i : Nat) (h : i < rs.length) : (colL rs p).getD i [] = [(rs.getD i []).getD p 0] := by simp [colL, h]
theorem colL_lev {n V : Nat} {rs : List (List UInt8)} (h : Lev n V rs) (p : Nat) : Lev n 1 (colL rs p) := ⟨by rw [colL, List.length_map, h.len], fun i hi => by rw [colL_getD _ _ _ (by rw [h.len]; exact hi)]; rfl⟩
theorem colL_shard {k V : Nat} {ds : List (List UInt8)} (h : Lev k V ds) (hk : 0 < k) {p : Nat} (hp : p < V) (i : Nat) : shard k (colL ds p) i = [(shard k ds i).getD p 0] := by
  have hl : (shard k (colL ds p) i).length = 1 := (colL_lev h p).shard_len hk i
  apply List.ext_getElem
  · rw [hl]; rfl
  · intro j h1 h2
    obtain rfl : j = 0 := by omega
    have e1 := shard_at k (colL ds p) i 0 (by rw [(colL_lev h p).wid 0 hk]; decide)
    have e2 := shard_at k ds i p (by rw [h.wid 0 hk]; exact hp)
    rw [List.getElem?_eq_getElem h1] at e1
    injection e1 with e1
    rw [e1]
    show _ = (shard k ds i).getD p 0
    rw [List.getD_eq_getElem?_getD, e2, Option.getD_some]
    refine xs_congr k fun a ha => ?_
    rw [colL_getD _ _ _ (by rw [h.len]; exact ha)]
    rfl
theorem colL_agr {k n V : Nat} {rs ds : List (List UInt8)} {S : List Nat} (hr : Lev n V rs) (h : Lev k V ds) (hk : 0 < k) {p : Nat} (hp : p < V) (ha : Agr k n rs ds S) : Agr k n (colL rs p) (colL ds p) S := fun i hi hs => by
  rw [colL_getD _ _ _ (by rw [hr.len]; exact hi), colL_shard h hk hp, ha i hi hs]
/-- A part of each row, wd bytes from lo on. -/
def partL (rs : List (List UInt8)) (lo wd : Nat) : List (List UInt8) := rs.map fun r => (r.drop lo).take wd
theorem partL_length (rs : List (List UInt8)) (lo wd : Nat) : (partL rs lo wd).length = rs.length := List.length_map ..
theorem partL_getD (rs : List (List UInt8)) (lo wd i : Nat) : (partL rs lo wd).getD i [] = ((rs.getD i []).drop lo).take wd := by
  by_cases h : i < rs.length
  · simp [partL, h]
  · simp [partL, h]
theorem partL_lev {n V lo wd : Nat} {rs : List (List UInt8)} (h : Lev n V rs) (hw : lo + wd ≤ V) : Lev n wd (partL rs lo wd) := ⟨by rw [partL_length, h.len], fun i hi => by rw [partL_getD, List.length_take, List.length_drop, h.wid i hi]; omega⟩
theorem partL_all {n V : Nat} {rs : List (List UInt8)} (h : Lev n V rs) : partL rs 0 V = rs := by
  apply List.ext_getElem
  · rw [partL_length]
  · intro i h1 h2
    have := h.wid i (by rw [← h.len]; exact h2)
    rw [List.getD_eq_getElem?_getD, List.getElem?_eq_getElem h2, Option.getD_some] at this
    simp only [partL, List.getElem_map, List.drop_zero]
    exact List.take_of_length_le (by omega)
theorem partL_col {n V lo : Nat} {rs : List (List UInt8)} (h : Lev n V rs) (hp : lo < V) : partL rs lo 1 = colL rs lo := by
  apply List.ext_getElem
  · rw [partL_length, colL, List.length_map]
  · intro i h1 h2
    rw [partL_length] at h1
    have := h.wid i (by rw [← h.len]; exact h1)
    rw [List.getD_eq_getElem?_getD, List.getElem?_eq_getElem h1, Option.getD_some] at this
    simp only [partL, colL, List.getElem_map]
    rw [List.take_one, List.head?_drop, List.getD_eq_getElem?_getD, List.getElem?_eq_getElem (show lo < rs[i].length by omega)]
    rfl
theorem part_lo {rs : List (List UInt8)} (lo wd h : Nat) (hh : h ≤ wd) : (partL rs lo wd).map (fun r => r.take h) = partL rs lo h := by
  simp only [partL, List.map_map]
  refine List.map_congr_left fun r _ => ?_
  simp [List.take_take, Nat.min_eq_left hh]
theorem part_hi {rs : List (List UInt8)} (lo wd h : Nat) (hh : h ≤ wd) : (partL rs lo wd).map (fun r => r.drop h) = partL rs (lo + h) (wd - h) := by
  simp only [partL, List.map_map]
  refine List.map_congr_left fun r _ => ?_
  simp [List.drop_take, List.drop_drop]

/-- Rising numbers below n, q of them. -/
structure Ris (n q : Nat) (s : List Nat) : Prop where
  len : s.length = q
  up : ∀ i j, i < j → j < q → s.getD i 0 < s.getD j 0
  lt : ∀ i, i < q → s.getD i 0 < n
/-- Numbers from x on, q of them. -/
def upL (x q : Nat) : List Nat := (List.range q).map (x + ·)
theorem upL_length (x q : Nat) : (upL x q).length = q := by simp [upL]
theorem upL_getD (x q i : Nat) (h : i < q) : (upL x q).getD i 0 = x + i := by simp [upL, h]
theorem upL_next (x q : Nat) : upL x q ++ [x + q] = upL x (q + 1) := by simp [upL, List.range_succ]
theorem Ris.first {n q : Nat} (h : q ≤ n) : Ris n q (upL 0 q) := ⟨upL_length _ _, fun i j hij hj => by rw [upL_getD _ _ _ (by omega), upL_getD _ _ _ hj]; omega, fun i hi => by rw [upL_getD _ _ _ hi]; omega⟩
/-- No two numbers from a on are closer than their places. -/
theorem Ris.gap {n q : Nat} {s : List Nat} (h : Ris n q s) {a : Nat} : ∀ d, a + d < q → s.getD a 0 + d ≤ s.getD (a + d) 0
  | 0, _ => by simp
  | d + 1, hd => by
    have := h.gap (a := a) d (by omega)
    have := h.up (a + d) (a + (d + 1)) (by omega) hd
    omega
theorem Ris.room {n q : Nat} {s : List Nat} (h : Ris n q s) {i : Nat} (hi : i < q) : s.getD i 0 + (q - i) ≤ n := by
  have h1 := h.gap (a := i) (q - 1 - i) (by omega)
  have h2 := h.lt (q - 1) (by omega)
  rw [show i + (q - 1 - i) = q - 1 by omega] at h1
  omega
theorem Ris.ext {n q : Nat} {s t : List Nat} (h : Ris n q s) (h' : Ris n q t) (he : ∀ i, i < q → s.getD i 0 = t.getD i 0) : s = t := by
  apply List.ext_getElem
  · rw [h.len, h'.len]
  · intro i h1 h2
    have := he i (by rw [← h.len]; exact h1)
    simpa [h1, h2] using this
/-- One list comes ahead of the other. -/
def Bef (q : Nat) (s t : List Nat) : Prop := ∃ j, j < q ∧ (∀ i, i < j → s.getD i 0 = t.getD i 0) ∧ s.getD j 0 < t.getD j 0
theorem bef_first {n q : Nat} {t : List Nat} (h : Ris n q t) : ¬ Bef q t (upL 0 q) := by
  rintro ⟨j, hj, _, h2⟩
  rw [upL_getD _ _ _ hj] at h2
  have := h.gap (a := 0) j (by omega)
  rw [Nat.zero_add] at this
  omega
theorem bef_total {n q : Nat} {s t : List Nat} (h : Ris n q s) (h' : Ris n q t) : s = t ∨ Bef q s t ∨ Bef q t s := by
  have : ∀ d, d ≤ q → (∀ i, i < d → s.getD i 0 = t.getD i 0) ∨ Bef q s t ∨ Bef q t s := by
    intro d
    induction d with
    | zero => intro _; exact .inl fun i hi => absurd hi (by omega)
    | succ d ih =>
      intro hd
      rcases ih (by omega) with he | hb
      · rcases Nat.lt_trichotomy (s.getD d 0) (t.getD d 0) with c | c | c
        · exact .inr (.inl ⟨d, by omega, he, c⟩)
        · exact .inl fun i hi => by
            rcases Nat.lt_or_ge i d with q1 | q1
            · exact he i q1
            · rw [show i = d by omega]; exact c
        · exact .inr (.inr ⟨d, by omega, fun i hi => (he i hi).symm, c⟩)
      · exact .inr hb
  rcases this q (Nat.le_refl _) with he | hb
  · exact .inl (h.ext h' he)
  · exact .inr hb
/-- The next list: the last number that may rise does, those behind it follow it. -/
def nextL (s : List Nat) (a q : Nat) : List Nat := s.take a ++ upL (s.getD a 0 + 1) (q - a)
section
variable {n q a : Nat} {s t : List Nat}
theorem nextL_lo (hl : s.length = q) (ha : a < q) {i : Nat} (hi : i < a) : (nextL s a q).getD i 0 = s.getD i 0 := by
  rw [nextL, List.getD_eq_getElem?_getD, List.getElem?_append_left (by rw [List.length_take]; omega), List.getElem?_take, if_pos hi, ← List.getD_eq_getElem?_getD]
theorem nextL_hi (hl : s.length = q) (ha : a < q) {i : Nat} (hi : a ≤ i) (hiq : i < q) : (nextL s a q).getD i 0 = s.getD a 0 + 1 + (i - a) := by
  rw [nextL, List.getD_eq_getElem?_getD, List.getElem?_append_right (by rw [List.length_take]; omega), List.length_take, show min a s.length = a by omega, ← List.getD_eq_getElem?_getD, upL_getD _ _ _ (by omega)]
theorem nextL_len (hl : s.length = q) (ha : a < q) : (nextL s a q).length = q := by rw [nextL, List.length_append, List.length_take, upL_length]; omega
theorem Ris.next (h : Ris n q s) (ha : a < q) (hn : s.getD a 0 + 1 + (q - a) ≤ n) : Ris n q (nextL s a q) := by
  refine ⟨nextL_len h.len ha, fun i j hij hj => ?_, fun i hi => ?_⟩
  · by_cases h1 : j < a
    · rw [nextL_lo h.len ha (by omega), nextL_lo h.len ha h1]
      exact h.up i j hij hj
    · rw [nextL_hi h.len ha (by omega) hj]
      by_cases h2 : i < a
      · rw [nextL_lo h.len ha h2]
        have := h.up i a h2 ha
        omega
      · rw [nextL_hi h.len ha (by omega) (by omega)]
        omega
  · by_cases h2 : i < a
    · rw [nextL_lo h.len ha h2]
      exact h.lt i hi
    · rw [nextL_hi h.len ha (by omega) hi]
      omega
/-- Nothing lies between a list and the next one. -/
theorem bef_next (h : Ris n q s) (h' : Ris n q t) (ha : a < q) (hm : ∀ i, a < i → i < q → s.getD i 0 + (q - i) = n) (hb : Bef q t (nextL s a q)) : t = s ∨ Bef q t s := by
  obtain ⟨j, hj, he, hlt⟩ := hb
  by_cases h1 : j < a
  · exact .inr ⟨j, hj, fun i hi => by rw [he i hi, nextL_lo h.len ha (by omega)], by rwa [nextL_lo h.len ha h1] at hlt⟩
  · by_cases h2 : j = a
    · subst h2
      rw [nextL_hi h.len ha (Nat.le_refl _) ha] at hlt
      have e1 : ∀ i, i < j → t.getD i 0 = s.getD i 0 := fun i hi => by rw [he i hi, nextL_lo h.len ha hi]
      rcases bef_total h' h with c | c | ⟨x, hx, ex, lx⟩
      · exact .inl c
      · exact .inr c
      · exfalso
        rcases Nat.lt_trichotomy x j with y | y | y
        · have := e1 x y; omega
        · subst y; omega
        · have := hm x y hx
          have := h'.room hx
          omega
    · exfalso
      rw [nextL_hi h.len ha (by omega) hj] at hlt
      have e1 := he a (by omega)
      rw [nextL_hi h.len ha (Nat.le_refl _) ha] at e1
      have := h'.gap (a := a) (j - a) (by omega)
      rw [show a + (j - a) = j by omega] at this
      omega
/-- Behind the last list there is none. -/
theorem bef_last (h : Ris n q s) (h' : Ris n q t) (hm : ∀ i, i < q → s.getD i 0 + (q - i) = n) : t = s ∨ Bef q t s := by
  rcases bef_total h' h with c | c | ⟨x, hx, ex, lx⟩
  · exact .inl c
  · exact .inr c
  · exfalso
    have := hm x hx
    have := h'.room hx
    omega
end
/-- A number that rises from list to list. -/
def valL (n : Nat) (s : List Nat) : Nat → Nat
  | 0 => 0
  | j + 1 => valL n s j * n + s.getD j 0
theorem valL_lt {n q : Nat} {s : List Nat} (h : Ris n q s) : ∀ j, j ≤ q → valL n s j < n ^ j
  | 0, _ => by simp [valL]
  | j + 1, hj => by
    have h1 := valL_lt h j (by omega)
    have h2 := h.lt j (by omega)
    rw [valL, Nat.pow_succ]
    have : (valL n s j + 1) * n ≤ n ^ j * n := Nat.mul_le_mul_right _ h1
    rw [Nat.add_mul, Nat.one_mul] at this
    omega
theorem valL_bef {n q : Nat} {s t : List Nat} (h : Ris n q s) (h' : Ris n q t) (hb : Bef q s t) : valL n s q < valL n t q := by
  obtain ⟨j, hj, he, hlt⟩ := hb
  have e1 : ∀ i, i ≤ j → valL n s i = valL n t i := by
    intro i
    induction i with
    | zero => intro _; rfl
    | succ i ih => intro hi; rw [valL, valL, ih (by omega), he i (by omega)]
  have e2 : ∀ d, j + 1 + d ≤ q → valL n s (j + 1 + d) < valL n t (j + 1 + d) := by
    intro d
    induction d with
    | zero =>
      intro _
      show valL n s (j + 1) < valL n t (j + 1)
      rw [valL, valL, e1 j (Nat.le_refl _)]
      omega
    | succ d ih =>
      intro hd
      have h1 := ih (by omega)
      have h2 := h.lt (j + 1 + d) (by omega)
      show valL n s (j + 1 + d + 1) < valL n t (j + 1 + d + 1)
      rw [valL, valL]
      have : (valL n s (j + 1 + d) + 1) * n ≤ valL n t (j + 1 + d) * n := Nat.mul_le_mul_right _ h1
      rw [Nat.add_mul, Nat.one_mul] at this
      omega
  have := e2 (q - (j + 1)) (by omega)
  rwa [show j + 1 + (q - (j + 1)) = q by omega] at this
theorem bef_nextL {q a : Nat} {s : List Nat} (hl : s.length = q) (ha : a < q) : Bef q s (nextL s a q) := ⟨a, ha, fun i hi => (nextL_lo hl ha hi).symm, by rw [nextL_hi hl ha (Nat.le_refl _) ha]; omega⟩
/-- Few numbers lie among so many rising ones. -/
theorem filter_sup : ∀ (n q : Nat) (p : Nat → Bool), ((List.range n).filter p).length ≤ q → q ≤ n → ∃ p' : Nat → Bool, (∀ i, i < n → p i = true → p' i = true) ∧ ((List.range n).filter p').length = q
  | 0, q, p, _, hq => ⟨p, fun i hi => absurd hi (by omega), by simp; omega⟩
  | n + 1, q, p, hc, hq => by
    rw [List.range_succ, List.filter_append, List.length_append] at hc
    have hcong : ∀ (f : Nat → Bool) (b : Bool), ((List.range n).filter fun i => if i = n then b else f i) = (List.range n).filter f := fun f b => List.filter_congr fun i hi => by
      have := List.mem_range.1 hi
      rw [if_neg (by omega)]
    by_cases hp : p n = true
    · rw [List.filter_cons_of_pos hp] at hc
      have hc : ((List.range n).filter p).length + 1 ≤ q := hc
      obtain ⟨f, h1, h2⟩ := filter_sup n (q - 1) p (by omega) (by omega)
      refine ⟨fun i => if i = n then true else f i, fun i hi hpi => ?_, ?_⟩
      · by_cases e : i = n
        · show (if i = n then true else f i) = true
          rw [if_pos e]
        · show (if i = n then true else f i) = true
          rw [if_neg e]
          exact h1 i (by omega) hpi
      · rw [List.range_succ, List.filter_append, List.length_append, hcong, List.filter_cons_of_pos (by simp), h2]
        simp
        omega
    · rw [List.filter_cons_of_neg hp] at hc
      have hc : ((List.range n).filter p).length + 0 ≤ q := hc
      by_cases hqn : q ≤ n
      · obtain ⟨f, h1, h2⟩ := filter_sup n q p (by omega) hqn
        refine ⟨fun i => if i = n then false else f i, fun i hi hpi => ?_, ?_⟩
        · by_cases e : i = n
          · subst e; exact absurd hpi hp
          · show (if i = n then false else f i) = true
            rw [if_neg e]
            exact h1 i (by omega) hpi
        · rw [List.range_succ, List.filter_append, List.length_append, hcong, List.filter_cons_of_neg (by simp), h2]
          simp
      · exact ⟨fun _ => true, fun _ _ _ => rfl, by
        show ((List.range (n + 1)).filter fun _ => true).length = q
        rw [List.filter_eq_self.2 (fun _ _ => rfl), List.length_range]
        omega⟩
theorem ris_filter (n q : Nat) (p : Nat → Bool) (h : ((List.range n).filter p).length = q) : Ris n q ((List.range n).filter p) := by
  have hpw : ((List.range n).filter p).Pairwise (· < ·) := List.Pairwise.filter _ List.pairwise_lt_range
  refine ⟨h, fun i j hij hj => ?_, fun i hi => ?_⟩
  · have := List.pairwise_iff_getElem.1 hpw i j (by omega) (by omega) hij
    simpa [show i < ((List.range n).filter p).length by omega, show j < ((List.range n).filter p).length by omega] using this
  · have : ((List.range n).filter p)[i]'(by omega) ∈ (List.range n).filter p := List.getElem_mem _
    rw [List.mem_filter, List.mem_range] at this
    simpa [show i < ((List.range n).filter p).length by omega] using this.1
/-- Rows that are told, of which few are unlike: they stand but for those of a set of so many. -/
theorem near_set {k m V most : Nat} {rs ds : List (List UInt8)} (hr : rs.length = k + m) (hd : Lev k V ds) (hm : most ≤ k + m) (h : (difL rs (ds ++ parL k ds m) (k + m)).length ≤ most) : ∃ S, Ris (k + m) most S ∧ Agr k (k + m) rs ds S := by
  obtain ⟨p', h1, h2⟩ := filter_sup (k + m) most (unlB rs (ds ++ parL k ds m)) h hm
  refine ⟨_, ris_filter _ _ p' h2, fun i hi hs => ?_⟩
  have hp : p' i ≠ true := fun q => hs (List.mem_filter.2 ⟨List.mem_range.2 hi, q⟩)
  have hu : unlB rs (ds ++ parL k ds m) i = false := by
    cases hq : unlB rs (ds ++ parL k ds m) i
    · rfl
    · exact absurd (h1 i hi hq) hp
  rw [(unlB_no hu).2.2, hd.all_at i hi]
/-- Rows that stand but for those of a set: no more of them are unlike than the set has. -/
theorem set_near {k m V most : Nat} {rs ds : List (List UInt8)} {S : List Nat} (hr : rs.length = k + m) (hd : Lev k V ds) (hS : S.length = most) (ha : Agr k (k + m) rs ds S) : (difL rs (ds ++ parL k ds m) (k + m)).length ≤ most := by
  have hsub : difL rs (ds ++ parL k ds m) (k + m) ⊆ S := fun i hi => by
    rw [difL, List.mem_filter, List.mem_range] at hi
    by_cases hs : i ∈ S
    · exact hs
    · rw [unlB_f (by omega) (by rw [hd.all_len]; exact hi.1) (by rw [hd.all_at i hi.1, ha i hi.1 hs])] at hi
      cases hi.2
  have hnd : (difL rs (ds ++ parL k ds m) (k + m)).Nodup := (List.nodup_range (n := k + m)).filter _
  have := hnd.length_le_of_subset hsub
  omega
end Go.Proofs.YtabcmjbcnmedhaaGreat

/-
  Rows of bytes in memory: a slice value that reads as a list of rows ('Gr'), one that grows by append ('Gg'), one that is filled place by place ('Fil'). Nothing here speaks of the program's own functions. No condition.
-/
import Derived.Test.YtgoomiimlfdcmaaGreatGc
namespace Go.Proofs.YtgoomiimlfdcmaaGreat
open Go.RowKit
set_option linter.unusedVariables false

/-- The slice value '.slice A n c' reads as the rows rs. -/
structure Gr (w : World) (A : Option Addr) (n c : Nat) (rs : List (List UInt8)) : Prop where
  ex : ∃ vs : List Value, Sl w 1 A n c vs ∧ ∀ (i : Nat) (r : List UInt8), rs[i]? = some r → ∃ A' c', vs[i]? = some (Value.slice A' r.length c') ∧ Sl w 1 A' r.length c' (cells r)
  len : rs.length = n
section
variable {w w' : World} {A : Option Addr} {n c : Nat} {rs : List (List UInt8)}
theorem Gr.later (h : Gr w A n c rs) (hb : Below w.heap.size w w') : Gr w' A n c rs := by
  obtain ⟨vs, hs, hr⟩ := h.ex
  refine ⟨⟨vs, hs.below hb (Nat.le_refl _), fun i r hi => ?_⟩, h.len⟩
  obtain ⟨A', c', h1, h2⟩ := hr i r hi
  exact ⟨A', c', h1, h2.below hb (Nat.le_refl _)⟩
theorem Gr.drewN (h : Gr w A n c rs) (k : Nat) : Gr (w.drewN k) A n c rs := h.later (below_drewN (Below.refl _ _) k)
theorem Gr.lim (h : Gr w A n c rs) : n ≤ maxLen := by
  obtain ⟨vs, hs, _⟩ := h.ex
  exact hs.lim
theorem Gr.capLe (h : Gr w A n c rs) : n ≤ c ∧ c ≤ maxLen := by
  obtain ⟨vs, hs, _⟩ := h.ex
  exact ⟨hs.cap, hs.top⟩
theorem Gr.nil (w : World) (c : Nat) (h : c ≤ maxLen) : Gr w none 0 c [] := ⟨⟨[], Sl.nil w 1 c h, fun i r h => by simp at h⟩, rfl⟩
theorem Gr.at_ (h : Gr w A n c rs) (h0 : 0 < n) : ∃ b o, A = some ⟨b, o, none⟩ ∧ ∀ (i : Nat) (r : List UInt8), rs[i]? = some r → ∃ A' c', w.cell? ⟨b, o + i, none⟩ = some (.slice A' r.length c') ∧ Sl w 1 A' r.length c' (cells r) := by
  obtain ⟨vs, hs, hr⟩ := h.ex
  obtain ⟨b, o, e, hc⟩ := hs.at_ h0
  refine ⟨b, o, e, fun i r hi => ?_⟩
  obtain ⟨A', c', h1, h2⟩ := hr i r hi
  exact ⟨A', c', hc i _ h1, h2⟩
theorem Gr.get (h : Gr w A n c rs) {i : Nat} (hi : i < n) : rs[i]? = some (rs.getD i []) := by
  rw [List.getD_eq_getElem?_getD, List.getElem?_eq_getElem (by rw [h.len]; exact hi), Option.getD_some]
/-- Rows from i on. -/
theorem Gr.sub (h : Gr w A n c rs) (lo hi c' : Nat) (h1 : lo ≤ hi) (h2 : hi ≤ n) (hc : hi - lo ≤ c') (hc' : c' ≤ maxLen) : Gr w (A.map (·.add lo)) (hi - lo) c' ((rs.drop lo).take (hi - lo)) := by
  obtain ⟨vs, hs, hr⟩ := h.ex
  have := hs.sub lo hi c' h1 h2 hc hc'
  rw [Nat.mul_one, Nat.mul_one] at this
  refine ⟨⟨_, this, fun i r hir => ?_⟩, by rw [List.length_take, List.length_drop, h.len]; omega⟩
  rw [List.getElem?_take] at hir
  split at hir
  · rename_i hlt
    rw [List.getElem?_drop] at hir
    obtain ⟨A', c'', e1, e2⟩ := hr _ _ hir
    exact ⟨A', c'', by rw [List.getElem?_take, if_pos hlt, List.getElem?_drop]; exact e1, e2⟩
  · cases hir
/-- A slice of rows that the call made of values at hand. -/
theorem Gr.one {g : Nat} {r : List UInt8} {A' : Option Addr} {c' : Nat} (hg : w.heap[g]? = some (.cells #[.slice A' r.length c'] 39 (0, 0))) (hs : Sl w 1 A' r.length c' (cells r)) : Gr w (some ⟨g, 0, none⟩) 1 1 [r] := by
  refine ⟨⟨[.slice A' r.length c'], ⟨rfl, Nat.le_refl _, by decide, fun j u hu => ⟨g, 0, rfl, ?_⟩⟩, fun i x hx => ?_⟩, rfl⟩
  · rw [cell_of_row _ _ _ _ _ _ hg, Nat.zero_add]
    simpa using hu
  · rcases i with _ | i
    · simp at hx
      subst hx
      exact ⟨A', c', rfl, hs⟩
    · simp at hx
end

/-- Another block than that of a slice. -/
def Oth (A : Option Addr) (A' : Option Addr) (n : Nat) : Prop := ∀ b o o', 0 < n → A' = some ⟨b, o, none⟩ → A ≠ some ⟨b, o', none⟩
theorem Oth.none (A' : Option Addr) (n : Nat) : Oth none A' n := fun _ _ _ _ _ h => by cases h
/-- The block of a slice. -/
def Blk (A : Option Addr) : Nat → Prop := fun k => ∃ o, A = some ⟨k, o, Option.none⟩
theorem Sl.oth {w w' : World} {A A' : Option Addr} {n c : Nat} {xs : List Value} (h : Sl w 1 A' n c xs) (hf : Fr (Blk A) w w') (ho : Oth A A' n) : Sl w' 1 A' n c xs :=
  h.fr hf fun b o hn hA ⟨o', hk⟩ => ho b o o' hn hA hk

/-- Rows that grow by append, in a slice of the call's own; their bytes lie elsewhere. -/
structure Gg (w : World) (B : Nat) (A : Option Addr) (n c : Nat) (rs : List (List UInt8)) : Prop where
  ex : ∃ vs : List Value, Own w B 39 1 A n c vs ∧ ∀ (i : Nat) (r : List UInt8), rs[i]? = some r → ∃ A' c', vs[i]? = some (Value.slice A' r.length c') ∧ Sl w 1 A' r.length c' (cells r) ∧ Oth A A' r.length
  len : rs.length = n
  own : ∀ b o, A = some ⟨b, o, none⟩ → B ≤ b ∧ b < w.heap.size
theorem Gg.gr {w : World} {B : Nat} {A : Option Addr} {n c : Nat} {rs : List (List UInt8)} (h : Gg w B A n c rs) : Gr w A n c rs := by
  obtain ⟨vs, hs, hr⟩ := h.ex
  refine ⟨⟨vs, hs.sl, fun i r hi => ?_⟩, h.len⟩
  obtain ⟨A', c', h1, h2, _⟩ := hr i r hi
  exact ⟨A', c', h1, h2⟩
theorem Gg.later {w w' : World} {B : Nat} {A : Option Addr} {n c : Nat} {rs : List (List UInt8)} (h : Gg w B A n c rs) (hb : Below w.heap.size w w') : Gg w' B A n c rs := by
  obtain ⟨vs, hs, hr⟩ := h.ex
  refine ⟨⟨vs, hs.below hb, fun i r hi => ?_⟩, h.len, fun b o e => ⟨(h.own b o e).1, Nat.lt_of_lt_of_le (h.own b o e).2 hb.size⟩⟩
  obtain ⟨A', c', h1, h2, h3⟩ := hr i r hi
  exact ⟨A', c', h1, h2.below hb (Nat.le_refl _), h3⟩
theorem Gg.nil (w : World) (B : Nat) : Gg w B none 0 0 [] := ⟨⟨[], Own.full (Sl.nil w 1 0 (by decide)), fun i r h => by simp at h⟩, rfl, fun b o e => by cases e⟩
theorem Gg.made0 (w : World) (k : Nat) (hk : k ≤ maxLen) : Gg (w.alloc (.cells (madeCells #[.slice none 0 0] k) 39)) w.heap.size (some ⟨w.heap.size, 0, none⟩) 0 k [] := by
  refine ⟨⟨[], ⟨Sl.empty _ 1 _ k hk, .inr ⟨by simp, .inr ⟨w.heap.size, k, _, rfl, Nat.le_refl _, heap_alloc_new w _, Nat.zero_le _, hk, ?_, by simp⟩⟩⟩, fun i r h => by simp at h⟩, rfl, fun b o e => ?_⟩
  · rw [size_madeCells, Nat.mul_one]
  · injection e with e
    injection e with e _
    subst e
    exact ⟨Nat.le_refl _, by simp⟩

/-- append of values onto a slice of the call's own: nothing but its own block turns. -/
theorem run_append_fr {w : World} {B size n c : Nat} {e : TypeId} {A : Option Addr} {xs : List Value} {P : Program} (t tx ty : TypeId) (i : TypeInfo) (z : Value) (bytes : Nat) (ht : P.underlying t = some (.slice e)) (hi : P.info? e = some i) (hz : i.zero = some z)
    (hsize : i.size = size) (hby : i.bytes = bytes) (hzs : z.cells.size = size) (hsz : 0 < size) (h : Own w B e size A n c xs) (hB : B ≤ w.heap.size) (hA : ∀ b o, A = some ⟨b, o, none⟩ → B ≤ b ∧ b < w.heap.size)
    (x : Value) (m : Nat) (ys : List Value) (hs : Src P size tx x m ys w) (h63 : n + m ≤ maxLen) (hbytes : (n + m) * bytes ≤ 140737488355328) :
    ∃ A' c' w', (Builtin.append_ #[t, tx] ty #[.slice A n c, x]).run P w = .ok (.slice A' (n + m) c') w' ∧ Own w' B e size A' (n + m) c' (xs ++ ys) ∧ Fr (Blk A) w w' ∧ (A' = A ∨ A' = some ⟨w.heap.size, 0, none⟩) ∧ (∀ b o, A' = some ⟨b, o, none⟩ → B ≤ b ∧ b < w'.heap.size) := by
  subst hsize
  subst hby
  by_cases hm : m = 0
  · subst hm
    have hy : ys = [] := List.eq_nil_of_length_eq_zero (by simpa using hs.newsLen)
    subst hy
    exact ⟨A, c, w, run_append_nothing w t tx ty e i ht hi A n c h.sl.cap x hs, by simpa using h, Fr.refl _ _, .inl rfl, hA⟩
  by_cases hroom : n + m ≤ c
  · rcases h.own with rfl | ho
    · omega
    obtain ⟨hl, hv⟩ := ho
    rcases hv with ⟨hv, _⟩ | ⟨g, cap, cur, hv, hbg, hg, hnc, hcm, hcs, htake⟩
    · injection hv with _ h1 h2
      omega
    injection hv with hA' _ hc
    subst hA'; subst hc
    have hfit : n * i.size + ys.length ≤ cur.size := by rw [hs.newsLen, hcs, ← Nat.add_mul]; exact Nat.mul_le_mul_right _ hroom
    have hr := run_append_room_src (P := P) w t tx ty e i ht hi g 0 n c x m ys hs hroom (fun j hj => by simp [World.cell?, hg]; omega) (fun j hj => by simp [World.frozen?, hg])
    rw [Nat.zero_add, setCells_row P hg hfit hs.one] at hr
    have hlen : (xs ++ ys).length = (n + m) * i.size := by rw [List.length_append, hl, hs.newsLen, Nat.add_mul]
    have hown : (w.setRow g (cur.toList.take (n * i.size) ++ ys ++ cur.toList.drop (n * i.size + ys.length)).toArray).ownsRow B e i.size (.slice (some ⟨g, 0, none⟩) (n + m) c) (n + m) (xs ++ ys) := by
      refine ⟨hlen, .inr ⟨g, c, _, rfl, hbg, setRow_heap w g cur _ e _ hg, hroom, hcm, ?_, ?_⟩⟩
      · simp only [List.size_toArray, List.length_append, List.length_take, List.length_drop, Array.length_toList]
        omega
      · rw [htake, ← hlen]
        exact List.take_left
    refine ⟨some ⟨g, 0, none⟩, c, _, hr, ⟨⟨hlen, hroom, hcm, fun j u hu => ⟨g, 0, rfl, ?_⟩⟩, .inr hown⟩, ⟨rfl, rfl, rfl, by simp, fun k hk hnk => setRow_other w g k _ (fun e => hnk ⟨0, by rw [e]⟩)⟩, .inl rfl, fun b o e => ⟨(hA b o e).1, by simpa using (hA b o e).2⟩⟩
    have := hown.cells (g := g) rfl j u hu
    rwa [show (⟨g, 0, none⟩ : Addr).add j = ⟨g, 0 + j, none⟩ from by unfold Addr.add; split <;> simp_all] at this
  · have hc : c < n + m := by omega
    have hr := run_append_grow_src (P := P) w t tx ty e i z ht hi hz A n c xs (h.sl.drew.firstCells) x m ys hs hc (by unfold maxLen at h63; omega) (growslice_fits hc hbytes)
    have hge := grownCap_ge w (n + m) c e
    have hcm : grownCap w (n + m) c e ≤ maxLen := grownCap_le_maxLen w (n + m) c e h63
    have hlen : (xs ++ ys).length = (n + m) * i.size := by rw [List.length_append, h.sl.len, hs.newsLen, Nat.add_mul]
    have hown : (w.drew.alloc (.cells ((xs ++ ys).toArray ++ Builtin.zeroCells z.cells (grownCap w (n + m) c e - (n + m))) e)).ownsRow B e i.size
        (.slice (some ⟨w.heap.size, 0, none⟩) (n + m) (grownCap w (n + m) c e)) (n + m) (xs ++ ys) := by
      refine ⟨hlen, .inr ⟨w.heap.size, _, _, rfl, hB, heap_alloc_new w.drew _, hge, hcm, ?_, ?_⟩⟩
      · simp only [Array.size_append, List.size_toArray, size_zeroCells, hzs, hlen, ← Nat.add_mul]
        congr 1
        omega
      · simp only [Array.toList_append]
        rw [← hlen]
        exact List.take_left
    refine ⟨_, _, _, hr, ⟨⟨hlen, hge, hcm, fun j u hu => ⟨w.heap.size, 0, rfl, ?_⟩⟩, .inr hown⟩, Fr.of_below ((Below.drew (Below.refl _ _)).alloc (Nat.le_refl _) _), .inr rfl, fun b o e => ?_⟩
    · have := hown.cells (g := w.heap.size) rfl j u hu
      rwa [show (⟨w.heap.size, 0, none⟩ : Addr).add j = ⟨w.heap.size, 0 + j, none⟩ from by unfold Addr.add; split <;> simp_all] at this
    · injection e with e
      injection e with e _
      subst e
      exact ⟨hB, by simp⟩

theorem one_slice {vs : List Value} (h : ∀ v ∈ vs, ∃ A n c, v = Value.slice A n c) : ∀ u ∈ vs, u.oneCell' = true := by
  intro u hu
  obtain ⟨_, _, _, rfl⟩ := h u hu
  rfl
theorem rows_slice {w : World} {A : Option Addr} {n c : Nat} {vs : List Value} {rs : List (List UInt8)} (hs : Sl w 1 A n c vs) (hl : rs.length = n) (h : ∀ (i : Nat) (r : List UInt8), rs[i]? = some r → ∃ A' c', vs[i]? = some (Value.slice A' r.length c') ∧ Sl w 1 A' r.length c' (cells r)) : ∀ v ∈ vs, ∃ A n c, v = Value.slice A n c := by
  intro v hv
  obtain ⟨i, hi, rfl⟩ := List.mem_iff_getElem.1 hv
  have hls := hs.len
  rw [Nat.mul_one] at hls
  obtain ⟨A', c', e, _⟩ := h i (rs[i]'(by omega)) (List.getElem?_eq_getElem (by omega))
  rw [List.getElem?_eq_getElem hi] at e
  injection e with e
  exact ⟨_, _, _, e⟩

/-- append of rows onto rows of the call's own. -/
theorem wpList_append_g {w : World} {B n c : Nat} {A : Option Addr} {rs : List (List UInt8)} {ops : Array Oper} {rest : List Oper} {o : Oper} {a : Act} {Q : Exit → Act → World → Prop} (hgd : o.guard = none) (s x : Operand)
    (ho : o.op = .call { callee := .builtin .append, args := #[s, x], argTypes := #[22, 22] })
    (hv : a.eval s = .slice A n c) (h : Gg w B A n c rs) (hB : B ≤ w.heap.size)
    (A2 : Option Addr) (m c2 : Nat) (ys : List (List UInt8)) (hx : a.eval x = .slice A2 m c2) (hs : Gr w A2 m c2 ys) (h40 : n + m ≤ 1048576)
    (hfar : ∀ b o i r A' c', A2 = some ⟨b, o, none⟩ → ys[i]? = some r → w.cell? ⟨b, o + i, none⟩ = some (.slice A' r.length c') → Oth A A' r.length)
    (hk : ∀ A' c' w', Gg w' B A' (n + m) c' (rs ++ ys) → Below B w w' → w.heap.size ≤ w'.heap.size → Fr (Blk A) w w' → wpList Tryz.prog ops Q rest (a.put o.dst (.slice A' (n + m) c')) w') : wpList Tryz.prog ops Q (o :: rest) a w := by
  obtain ⟨i0, hi, hz0, hz1, hz2⟩ := info_parts info_bs
  obtain ⟨vs, hown, hrs⟩ := h.ex
  obtain ⟨vs2, hsl2, hrs2⟩ := hs.ex
  have hone := one_slice (rows_slice hsl2 hs.len hrs2)
  obtain ⟨A', c', w', hr, h2, hfr, hA', hown'⟩ := run_append_fr (P := Tryz.prog) 22 22 o.type i0 (.slice none 0 0) 24 Tryz.underlying22 hi hz0 hz1 hz2 rfl (by decide) hown hB h.own (.slice A2 m c2) m vs2 (hsl2.src Tryz.underlying22 (by decide) hone) (by unfold maxLen; omega) (by omega)
  refine wpList_plain hgd fun _ hK => ?_
  unfold Oper.wp execOp
  simp only [ho, resolve, invoke, builtin, Sem.run_bind, Sem.run_pure, Result.andThen_ok, List.map_toArray, List.map_cons, List.map_nil, hv, hx, hr]
  refine hK _ _ (hk A' c' w' ⟨⟨vs ++ vs2, h2, fun i r hir => ?_⟩, by rw [List.length_append, h.len, hs.len], hown'⟩ (hfr.below hB (fun k ⟨o, e⟩ => (h.own k o e).1)) hfr.size hfr)
  have hvl := hown.sl.len
  rw [Nat.mul_one] at hvl
  have new : ∀ A'' c'', Sl w 1 A'' r.length c'' (cells r) → Oth A A'' r.length → Sl w' 1 A'' r.length c'' (cells r) ∧ Oth A' A'' r.length := by
    intro A'' c'' hsr hot
    refine ⟨hsr.oth hfr hot, fun b o o' hn e e' => ?_⟩
    rcases hA' with rfl | rfl
    · exact hot b o o' hn e e'
    · injection e' with e'
      injection e' with e' _
      have := hsr.lt (by decide) hn e
      omega
  rcases Nat.lt_or_ge i n with hlt | hge
  · rw [List.getElem?_append_left (by rw [h.len]; exact hlt)] at hir
    obtain ⟨A'', c'', e1, e2, e3⟩ := hrs i r hir
    exact ⟨A'', c'', by rw [List.getElem?_append_left (by rw [hvl]; exact hlt)]; exact e1, new A'' c'' e2 e3⟩
  · rw [List.getElem?_append_right (by rw [h.len]; exact hge), h.len] at hir
    obtain ⟨A'', c'', e1, e2⟩ := hrs2 (i - n) r hir
    refine ⟨A'', c'', by rw [List.getElem?_append_right (by rw [hvl]; exact hge), hvl]; exact e1, new A'' c'' e2 ?_⟩
    have hi2 : i - n < m := by
      rcases Nat.lt_or_ge (i - n) m with h' | h'
      · exact h'
      · rw [List.getElem?_eq_none (by rw [hs.len]; exact h')] at hir
        cases hir
    obtain ⟨b, o, e, hc⟩ := hsl2.at_ hi2
    exact hfar b o (i - n) r A'' c'' e hir (hc (i - n) _ e1)

/-- Rows that are filled one by one: at block g lie m places, the first ones hold rs; their bytes lie elsewhere. -/
structure Fil (w : World) (g m : Nat) (cur : Array Value) (rs : List (List UInt8)) : Prop where
  row : w.heap[g]? = some (.cells cur 39 (0, 0))
  size : cur.size = m
  le : rs.length ≤ m
  rows : ∀ (i : Nat) (r : List UInt8), rs[i]? = some r → ∃ A c, cur[i]? = some (Value.slice A r.length c) ∧ Sl w 1 A r.length c (cells r) ∧ ∀ b o, 0 < r.length → A = some ⟨b, o, none⟩ → b ≠ g
section
variable {w w' : World} {g m : Nat} {cur : Array Value} {rs : List (List UInt8)}
theorem Fil.made (w : World) (k : Nat) : Fil (w.alloc (.cells (madeCells #[.slice none 0 0] k) 39)) w.heap.size k (madeCells #[.slice none 0 0] k) [] :=
  ⟨heap_alloc_new w _, by rw [size_madeCells], Nat.zero_le _, fun i r h => by simp at h⟩
theorem Fil.later (h : Fil w g m cur rs) (hb : Below w.heap.size w w') : Fil w' g m cur rs :=
  ⟨(hb.block _ (block_lt h.row)).trans h.row, h.size, h.le, fun i r hi => by
    obtain ⟨A, c, h1, h2, h3⟩ := h.rows i r hi
    exact ⟨A, c, h1, h2.below hb (Nat.le_refl _), h3⟩⟩
theorem Fil.free (h : Fil w g m cur rs) (i : Nat) : w.frozen? ⟨g, i, none⟩ = false := frozen_of_row _ _ _ _ _ h.row
theorem Fil.has (h : Fil w g m cur rs) {i : Nat} (hi : i < m) : ∃ v, w.cell? ⟨g, i, none⟩ = some v := by
  rw [cell_of_row _ _ _ _ _ _ h.row]
  exact ⟨_, Array.getElem?_eq_getElem (by rw [h.size]; exact hi)⟩
/-- The next one: what else lay in memory lies there still. -/
theorem Fil.next (h : Fil w g m cur rs) (hf : Fr (fun k => k = g) w w') {k : Nat} (hk : rs.length = k) (hkm : k < m) {A : Option Addr} {c : Nat} {r : List UInt8} (hg : w'.heap[g]? = some (.cells (cur.setIfInBounds k (.slice A r.length c)) 39 (0, 0))) (hs : Sl w' 1 A r.length c (cells r)) (hA : ∀ b o, 0 < r.length → A = some ⟨b, o, none⟩ → b ≠ g) :
    Fil w' g m (cur.setIfInBounds k (.slice A r.length c)) (rs ++ [r]) := by
  refine ⟨hg, by rw [Array.size_setIfInBounds]; exact h.size, by rw [List.length_append, List.length_singleton]; omega, fun i x hi => ?_⟩
  rcases Nat.lt_or_ge i k with hlt | hge
  · rw [List.getElem?_append_left (by omega)] at hi
    obtain ⟨A', c', h1, h2, h3⟩ := h.rows i x hi
    exact ⟨A', c', by rw [Array.getElem?_setIfInBounds, if_neg (by omega)]; exact h1, h2.fr hf (fun b o hn e hb => h3 b o hn e hb), h3⟩
  · rw [List.getElem?_append_right (by omega), hk] at hi
    obtain rfl : i = k := by
      rcases Nat.lt_or_ge (i - k) 1 with h' | h'
      · omega
      · rw [List.getElem?_eq_none (by simpa using h')] at hi
        cases hi
    rw [Nat.sub_self] at hi
    injection hi with hi
    subst hi
    exact ⟨A, c, by rw [Array.getElem?_setIfInBounds, if_pos rfl, if_pos (by rw [h.size]; exact hkm)], hs, hA⟩
theorem Fil.gr (h : Fil w g m cur rs) (hl : rs.length = m) (hm : m ≤ maxLen) : Gr w (some ⟨g, 0, none⟩) m m rs := by
  refine ⟨⟨cur.toList, ⟨by rw [Array.length_toList, h.size, Nat.mul_one], Nat.le_refl _, hm, fun j u hu => ⟨g, 0, rfl, ?_⟩⟩, fun i r hi => ?_⟩, hl⟩
  · rw [cell_of_row _ _ _ _ _ _ h.row, Nat.zero_add]
    simpa using hu
  · obtain ⟨A, c, h1, h2, _⟩ := h.rows i r hi
    exact ⟨A, c, by simpa using h1, h2⟩
end

/-- make([][]byte, 0, z). -/
theorem makes0_eq (z : Int) (k : Nat) (hz : z = (k : Int)) (hk : k ≤ 1048576) (w : World) :
    (Instr.makeSlice 22 (.int .i64 0) (.int .i64 z)).run Tryz.prog w = .ok (.slice (some ⟨w.heap.size, 0, none⟩) 0 k) (w.alloc (.cells (madeCells #[.slice none 0 0] k) 39)) := by
  obtain ⟨i0, hi, hz0, hz1, hz2⟩ := info_parts info_bs
  subst hz
  have h := run_make (P := Tryz.prog) w 22 39 i0 (.slice none 0 0) Tryz.underlying22 hi hz0 .i64 .i64 (0 : Int) (k : Int) (by omega) (by omega) (by rw [hz2]; omega) (by omega)
  rw [hz1, Nat.mul_one, Int.toNat_natCast] at h
  exact h
end Go.Proofs.YtgoomiimlfdcmaaGreat

/-
  Rows of bytes in memory: a slice value that reads as a list of rows ('Gr'), one that grows by append ('Gg'), one that is filled place by place ('Fil'). Nothing here speaks of the program's own functions. No condition.
  The contract of the document's answer Same of layer 5, over any rows. No condition.
-/
import Derived.Test.YtpijfghklgmefaaDoorGa
import Derived.Deep.WholeRow
import Derived.Deep.QuietTactic
import Derived.BigQuiet
import Derived.Deep.LoopGhost
namespace Go.Proofs.YtpijfghklgmefaaDoor
open Go.RowKit
set_option linter.unusedVariables false

/-- The slice value '.slice A n c' reads as the rows rs. -/
structure Gr (w : World) (A : Option Addr) (n c : Nat) (rs : List (List UInt8)) : Prop where
  ex : ∃ vs : List Value, Sl w 1 A n c vs ∧ ∀ (i : Nat) (r : List UInt8), rs[i]? = some r → ∃ A' c', vs[i]? = some (Value.slice A' r.length c') ∧ Sl w 1 A' r.length c' (cells r)
  len : rs.length = n
section
variable {w w' : World} {A : Option Addr} {n c : Nat} {rs : List (List UInt8)}
theorem Gr.later (h : Gr w A n c rs) (hb : Below w.heap.size w w') : Gr w' A n c rs := by
  obtain ⟨vs, hs, hr⟩ := h.ex
  refine ⟨⟨vs, hs.below hb (Nat.le_refl _), fun i r hi => ?_⟩, h.len⟩
  obtain ⟨A', c', h1, h2⟩ := hr i r hi
  exact ⟨A', c', h1, h2.below hb (Nat.le_refl _)⟩
theorem Gr.drewN (h : Gr w A n c rs) (k : Nat) : Gr (w.drewN k) A n c rs := h.later (below_drewN (Below.refl _ _) k)
theorem Gr.lim (h : Gr w A n c rs) : n ≤ maxLen := by
  obtain ⟨vs, hs, _⟩ := h.ex
  exact hs.lim
theorem Gr.capLe (h : Gr w A n c rs) : n ≤ c ∧ c ≤ maxLen := by
  obtain ⟨vs, hs, _⟩ := h.ex
  exact ⟨hs.cap, hs.top⟩
theorem Gr.nil (w : World) (c : Nat) (h : c ≤ maxLen) : Gr w none 0 c [] := ⟨⟨[], Sl.nil w 1 c h, fun i r h => by simp at h⟩, rfl⟩
theorem Gr.at_ (h : Gr w A n c rs) (h0 : 0 < n) : ∃ b o, A = some ⟨b, o, none⟩ ∧ ∀ (i : Nat) (r : List UInt8), rs[i]? = some r → ∃ A' c', w.cell? ⟨b, o + i, none⟩ = some (.slice A' r.length c') ∧ Sl w 1 A' r.length c' (cells r) := by
  obtain ⟨vs, hs, hr⟩ := h.ex
  obtain ⟨b, o, e, hc⟩ := hs.at_ h0
  refine ⟨b, o, e, fun i r hi => ?_⟩
  obtain ⟨A', c', h1, h2⟩ := hr i r hi
  exact ⟨A', c', hc i _ h1, h2⟩
theorem Gr.get (h : Gr w A n c rs) {i : Nat} (hi : i < n) : rs[i]? = some (rs.getD i []) := by
  rw [List.getD_eq_getElem?_getD, List.getElem?_eq_getElem (by rw [h.len]; exact hi), Option.getD_some]
/-- Rows from i on. -/
theorem Gr.sub (h : Gr w A n c rs) (lo hi c' : Nat) (h1 : lo ≤ hi) (h2 : hi ≤ n) (hc : hi - lo ≤ c') (hc' : c' ≤ maxLen) : Gr w (A.map (·.add lo)) (hi - lo) c' ((rs.drop lo).take (hi - lo)) := by
  obtain ⟨vs, hs, hr⟩ := h.ex
  have := hs.sub lo hi c' h1 h2 hc hc'
  rw [Nat.mul_one, Nat.mul_one] at this
  refine ⟨⟨_, this, fun i r hir => ?_⟩, by rw [List.length_take, List.length_drop, h.len]; omega⟩
  rw [List.getElem?_take] at hir
  split at hir
  · rename_i hlt
    rw [List.getElem?_drop] at hir
    obtain ⟨A', c'', e1, e2⟩ := hr _ _ hir
    exact ⟨A', c'', by rw [List.getElem?_take, if_pos hlt, List.getElem?_drop]; exact e1, e2⟩
  · cases hir
/-- A slice of rows that the call made of values at hand. -/
theorem Gr.one {g : Nat} {r : List UInt8} {A' : Option Addr} {c' : Nat} (hg : w.heap[g]? = some (.cells #[.slice A' r.length c'] 26 (0, 0))) (hs : Sl w 1 A' r.length c' (cells r)) : Gr w (some ⟨g, 0, none⟩) 1 1 [r] := by
  refine ⟨⟨[.slice A' r.length c'], ⟨rfl, Nat.le_refl _, by decide, fun j u hu => ⟨g, 0, rfl, ?_⟩⟩, fun i x hx => ?_⟩, rfl⟩
  · rw [cell_of_row _ _ _ _ _ _ hg, Nat.zero_add]
    simpa using hu
  · rcases i with _ | i
    · simp at hx
      subst hx
      exact ⟨A', c', rfl, hs⟩
    · simp at hx
end

/-- Another block than that of a slice. -/
def Oth (A : Option Addr) (A' : Option Addr) (n : Nat) : Prop := ∀ b o o', 0 < n → A' = some ⟨b, o, none⟩ → A ≠ some ⟨b, o', none⟩
theorem Oth.none (A' : Option Addr) (n : Nat) : Oth none A' n := fun _ _ _ _ _ h => by cases h
/-- The block of a slice. -/
def Blk (A : Option Addr) : Nat → Prop := fun k => ∃ o, A = some ⟨k, o, Option.none⟩
theorem Sl.oth {w w' : World} {A A' : Option Addr} {n c : Nat} {xs : List Value} (h : Sl w 1 A' n c xs) (hf : Fr (Blk A) w w') (ho : Oth A A' n) : Sl w' 1 A' n c xs :=
  h.fr hf fun b o hn hA ⟨o', hk⟩ => ho b o o' hn hA hk

/-- Rows that grow by append, in a slice of the call's own; their bytes lie elsewhere. -/
structure Gg (w : World) (B : Nat) (A : Option Addr) (n c : Nat) (rs : List (List UInt8)) : Prop where
  ex : ∃ vs : List Value, Own w B 26 1 A n c vs ∧ ∀ (i : Nat) (r : List UInt8), rs[i]? = some r → ∃ A' c', vs[i]? = some (Value.slice A' r.length c') ∧ Sl w 1 A' r.length c' (cells r) ∧ Oth A A' r.length
  len : rs.length = n
  own : ∀ b o, A = some ⟨b, o, none⟩ → B ≤ b ∧ b < w.heap.size
theorem Gg.gr {w : World} {B : Nat} {A : Option Addr} {n c : Nat} {rs : List (List UInt8)} (h : Gg w B A n c rs) : Gr w A n c rs := by
  obtain ⟨vs, hs, hr⟩ := h.ex
  refine ⟨⟨vs, hs.sl, fun i r hi => ?_⟩, h.len⟩
  obtain ⟨A', c', h1, h2, _⟩ := hr i r hi
  exact ⟨A', c', h1, h2⟩
theorem Gg.later {w w' : World} {B : Nat} {A : Option Addr} {n c : Nat} {rs : List (List UInt8)} (h : Gg w B A n c rs) (hb : Below w.heap.size w w') : Gg w' B A n c rs := by
  obtain ⟨vs, hs, hr⟩ := h.ex
  refine ⟨⟨vs, hs.below hb, fun i r hi => ?_⟩, h.len, fun b o e => ⟨(h.own b o e).1, Nat.lt_of_lt_of_le (h.own b o e).2 hb.size⟩⟩
  obtain ⟨A', c', h1, h2, h3⟩ := hr i r hi
  exact ⟨A', c', h1, h2.below hb (Nat.le_refl _), h3⟩
theorem Gg.nil (w : World) (B : Nat) : Gg w B none 0 0 [] := ⟨⟨[], Own.full (Sl.nil w 1 0 (by decide)), fun i r h => by simp at h⟩, rfl, fun b o e => by cases e⟩
theorem Gg.made0 (w : World) (k : Nat) (hk : k ≤ maxLen) : Gg (w.alloc (.cells (madeCells #[.slice none 0 0] k) 26)) w.heap.size (some ⟨w.heap.size, 0, none⟩) 0 k [] := by
  refine ⟨⟨[], ⟨Sl.empty _ 1 _ k hk, .inr ⟨by simp, .inr ⟨w.heap.size, k, _, rfl, Nat.le_refl _, heap_alloc_new w _, Nat.zero_le _, hk, ?_, by simp⟩⟩⟩, fun i r h => by simp at h⟩, rfl, fun b o e => ?_⟩
  · rw [size_madeCells, Nat.mul_one]
  · injection e with e
    injection e with e _
    subst e
    exact ⟨Nat.le_refl _, by simp⟩

/-- append of values onto a slice of the call's own: nothing but its own block turns. -/
theorem run_append_fr {w : World} {B size n c : Nat} {e : TypeId} {A : Option Addr} {xs : List Value} {P : Program} (t tx ty : TypeId) (i : TypeInfo) (z : Value) (bytes : Nat) (ht : P.underlying t = some (.slice e)) (hi : P.info? e = some i) (hz : i.zero = some z)
    (hsize : i.size = size) (hby : i.bytes = bytes) (hzs : z.cells.size = size) (hsz : 0 < size) (h : Own w B e size A n c xs) (hB : B ≤ w.heap.size) (hA : ∀ b o, A = some ⟨b, o, none⟩ → B ≤ b ∧ b < w.heap.size)
    (x : Value) (m : Nat) (ys : List Value) (hs : Src P size tx x m ys w) (h63 : n + m ≤ maxLen) (hbytes : (n + m) * bytes ≤ 140737488355328) :
    ∃ A' c' w', (Builtin.append_ #[t, tx] ty #[.slice A n c, x]).run P w = .ok (.slice A' (n + m) c') w' ∧ Own w' B e size A' (n + m) c' (xs ++ ys) ∧ Fr (Blk A) w w' ∧ (A' = A ∨ A' = some ⟨w.heap.size, 0, none⟩) ∧ (∀ b o, A' = some ⟨b, o, none⟩ → B ≤ b ∧ b < w'.heap.size) := by
  subst hsize
  subst hby
  by_cases hm : m = 0
  · subst hm
    have hy : ys = [] := List.eq_nil_of_length_eq_zero (by simpa using hs.newsLen)
    subst hy
    exact ⟨A, c, w, run_append_nothing w t tx ty e i ht hi A n c h.sl.cap x hs, by simpa using h, Fr.refl _ _, .inl rfl, hA⟩
  by_cases hroom : n + m ≤ c
  · rcases h.own with rfl | ho
    · omega
    obtain ⟨hl, hv⟩ := ho
    rcases hv with ⟨hv, _⟩ | ⟨g, cap, cur, hv, hbg, hg, hnc, hcm, hcs, htake⟩
    · injection hv with _ h1 h2
      omega
    injection hv with hA' _ hc
    subst hA'; subst hc
    have hfit : n * i.size + ys.length ≤ cur.size := by rw [hs.newsLen, hcs, ← Nat.add_mul]; exact Nat.mul_le_mul_right _ hroom
    have hr := run_append_room_src (P := P) w t tx ty e i ht hi g 0 n c x m ys hs hroom (fun j hj => by simp [World.cell?, hg]; omega) (fun j hj => by simp [World.frozen?, hg])
    rw [Nat.zero_add, setCells_row P hg hfit hs.one] at hr
    have hlen : (xs ++ ys).length = (n + m) * i.size := by rw [List.length_append, hl, hs.newsLen, Nat.add_mul]
    have hown : (w.setRow g (cur.toList.take (n * i.size) ++ ys ++ cur.toList.drop (n * i.size + ys.length)).toArray).ownsRow B e i.size (.slice (some ⟨g, 0, none⟩) (n + m) c) (n + m) (xs ++ ys) := by
      refine ⟨hlen, .inr ⟨g, c, _, rfl, hbg, setRow_heap w g cur _ e _ hg, hroom, hcm, ?_, ?_⟩⟩
      · simp only [List.size_toArray, List.length_append, List.length_take, List.length_drop, Array.length_toList]
        omega
      · rw [htake, ← hlen]
        exact List.take_left
    refine ⟨some ⟨g, 0, none⟩, c, _, hr, ⟨⟨hlen, hroom, hcm, fun j u hu => ⟨g, 0, rfl, ?_⟩⟩, .inr hown⟩, ⟨rfl, rfl, rfl, by simp, fun k hk hnk => setRow_other w g k _ (fun e => hnk ⟨0, by rw [e]⟩)⟩, .inl rfl, fun b o e => ⟨(hA b o e).1, by simpa using (hA b o e).2⟩⟩
    have := hown.cells (g := g) rfl j u hu
    rwa [show (⟨g, 0, none⟩ : Addr).add j = ⟨g, 0 + j, none⟩ from by unfold Addr.add; split <;> simp_all] at this
  · have hc : c < n + m := by omega
    have hr := run_append_grow_src (P := P) w t tx ty e i z ht hi hz A n c xs (h.sl.drew.firstCells) x m ys hs hc (by unfold maxLen at h63; omega) (growslice_fits hc hbytes)
    have hge := grownCap_ge w (n + m) c e
    have hcm : grownCap w (n + m) c e ≤ maxLen := grownCap_le_maxLen w (n + m) c e h63
    have hlen : (xs ++ ys).length = (n + m) * i.size := by rw [List.length_append, h.sl.len, hs.newsLen, Nat.add_mul]
    have hown : (w.drew.alloc (.cells ((xs ++ ys).toArray ++ Builtin.zeroCells z.cells (grownCap w (n + m) c e - (n + m))) e)).ownsRow B e i.size
        (.slice (some ⟨w.heap.size, 0, none⟩) (n + m) (grownCap w (n + m) c e)) (n + m) (xs ++ ys) := by
      refine ⟨hlen, .inr ⟨w.heap.size, _, _, rfl, hB, heap_alloc_new w.drew _, hge, hcm, ?_, ?_⟩⟩
      · simp only [Array.size_append, List.size_toArray, size_zeroCells, hzs, hlen, ← Nat.add_mul]
        congr 1
        omega
      · simp only [Array.toList_append]
        rw [← hlen]
        exact List.take_left
    refine ⟨_, _, _, hr, ⟨⟨hlen, hge, hcm, fun j u hu => ⟨w.heap.size, 0, rfl, ?_⟩⟩, .inr hown⟩, Fr.of_below ((Below.drew (Below.refl _ _)).alloc (Nat.le_refl _) _), .inr rfl, fun b o e => ?_⟩
    · have := hown.cells (g := w.heap.size) rfl j u hu
      rwa [show (⟨w.heap.size, 0, none⟩ : Addr).add j = ⟨w.heap.size, 0 + j, none⟩ from by unfold Addr.add; split <;> simp_all] at this
    · injection e with e
      injection e with e _
      subst e
      exact ⟨hB, by simp⟩

theorem one_slice {vs : List Value} (h : ∀ v ∈ vs, ∃ A n c, v = Value.slice A n c) : ∀ u ∈ vs, u.oneCell' = true := by
  intro u hu
  obtain ⟨_, _, _, rfl⟩ := h u hu
  rfl
theorem rows_slice {w : World} {A : Option Addr} {n c : Nat} {vs : List Value} {rs : List (List UInt8)} (hs : Sl w 1 A n c vs) (hl : rs.length = n) (h : ∀ (i : Nat) (r : List UInt8), rs[i]? = some r → ∃ A' c', vs[i]? = some (Value.slice A' r.length c') ∧ Sl w 1 A' r.length c' (cells r)) : ∀ v ∈ vs, ∃ A n c, v = Value.slice A n c := by
  intro v hv
  obtain ⟨i, hi, rfl⟩ := List.mem_iff_getElem.1 hv
  have hls := hs.len
  rw [Nat.mul_one] at hls
  obtain ⟨A', c', e, _⟩ := h i (rs[i]'(by omega)) (List.getElem?_eq_getElem (by omega))
  rw [List.getElem?_eq_getElem hi] at e
  injection e with e
  exact ⟨_, _, _, e⟩

/-- Rows in memory, with the values of their slices. -/
structure GrV (w : World) (A : Option Addr) (n c : Nat) (rs : List (List UInt8)) (vs : List Value) : Prop where
  sl : Sl w 1 A n c vs
  rows : ∀ (i : Nat) (r : List UInt8), rs[i]? = some r → ∃ A' c', vs[i]? = some (Value.slice A' r.length c') ∧ Sl w 1 A' r.length c' (cells r)
  len : rs.length = n
theorem GrV.gr {w : World} {A : Option Addr} {n c : Nat} {rs : List (List UInt8)} {vs : List Value} (h : GrV w A n c rs vs) : Gr w A n c rs := ⟨⟨vs, h.sl, h.rows⟩, h.len⟩
theorem GrV.later {w w' : World} {A : Option Addr} {n c : Nat} {rs : List (List UInt8)} {vs : List Value} (h : GrV w A n c rs vs) (hb : Below w.heap.size w w') : GrV w' A n c rs vs :=
  ⟨h.sl.below hb (Nat.le_refl _), fun i r hi => by
    obtain ⟨A', c', h1, h2⟩ := h.rows i r hi
    exact ⟨A', c', h1, h2.below hb (Nat.le_refl _)⟩, h.len⟩
/-- Rows that grow by append, with the values of their slices. -/
structure GgV (w : World) (B : Nat) (A : Option Addr) (n c : Nat) (rs : List (List UInt8)) (vs : List Value) : Prop where
  own : Own w B 26 1 A n c vs
  rows : ∀ (i : Nat) (r : List UInt8), rs[i]? = some r → ∃ A' c', vs[i]? = some (Value.slice A' r.length c') ∧ Sl w 1 A' r.length c' (cells r) ∧ Oth A A' r.length
  len : rs.length = n
  blk : ∀ b o, A = some ⟨b, o, none⟩ → B ≤ b ∧ b < w.heap.size
theorem GgV.gg {w : World} {B : Nat} {A : Option Addr} {n c : Nat} {rs : List (List UInt8)} {vs : List Value} (h : GgV w B A n c rs vs) : Gg w B A n c rs := ⟨⟨vs, h.own, h.rows⟩, h.len, h.blk⟩
theorem GgV.grV {w : World} {B : Nat} {A : Option Addr} {n c : Nat} {rs : List (List UInt8)} {vs : List Value} (h : GgV w B A n c rs vs) : GrV w A n c rs vs :=
  ⟨h.own.sl, fun i r hi => by
    obtain ⟨A', c', h1, h2, _⟩ := h.rows i r hi
    exact ⟨A', c', h1, h2⟩, h.len⟩
theorem GgV.later {w w' : World} {B : Nat} {A : Option Addr} {n c : Nat} {rs : List (List UInt8)} {vs : List Value} (h : GgV w B A n c rs vs) (hb : Below w.heap.size w w') : GgV w' B A n c rs vs :=
  ⟨h.own.below hb, fun i r hi => by
    obtain ⟨A', c', h1, h2, h3⟩ := h.rows i r hi
    exact ⟨A', c', h1, h2.below hb (Nat.le_refl _), h3⟩, h.len, fun b o e => ⟨(h.blk b o e).1, Nat.lt_of_lt_of_le (h.blk b o e).2 hb.size⟩⟩
theorem GgV.made0 (w : World) (k : Nat) (hk : k ≤ maxLen) : GgV (w.alloc (.cells (madeCells #[.slice none 0 0] k) 26)) w.heap.size (some ⟨w.heap.size, 0, none⟩) 0 k [] [] := by
  refine ⟨⟨Sl.empty _ 1 _ k hk, .inr ⟨by simp, .inr ⟨w.heap.size, k, _, rfl, Nat.le_refl _, heap_alloc_new w _, Nat.zero_le _, hk, ?_, by simp⟩⟩⟩, fun i r h => by simp at h, rfl, fun b o e => ?_⟩
  · rw [size_madeCells, Nat.mul_one]
  · injection e with e
    injection e with e _
    subst e
    exact ⟨Nat.le_refl _, by simp⟩

/-- append of rows onto rows of the call's own, with their values. -/
theorem wpList_append_gV {w : World} {B n c : Nat} {A : Option Addr} {rs : List (List UInt8)} {vs : List Value} {ops : Array Oper} {rest : List Oper} {o : Oper} {a : Act} {Q : Exit → Act → World → Prop} (hgd : o.guard = none) (s x : Operand)
    (ho : o.op = .call { callee := .builtin .append, args := #[s, x], argTypes := #[33, 33] })
    (hv : a.eval s = .slice A n c) (h : GgV w B A n c rs vs) (hB : B ≤ w.heap.size)
    (A2 : Option Addr) (m c2 : Nat) (ys : List (List UInt8)) (vs2 : List Value) (hx : a.eval x = .slice A2 m c2) (hs : GrV w A2 m c2 ys vs2) (h40 : n + m ≤ 1048576)
    (hfar : ∀ (i : Nat) (r : List UInt8) (A' : Option Addr) (c' : Nat), ys[i]? = some r → vs2[i]? = some (Value.slice A' r.length c') → Oth A A' r.length)
    (hk : ∀ A' c' w', GgV w' B A' (n + m) c' (rs ++ ys) (vs ++ vs2) → Below B w w' → w.heap.size ≤ w'.heap.size → Fr (Blk A) w w' → wpList Tryd.prog ops Q rest (a.put o.dst (.slice A' (n + m) c')) w') : wpList Tryd.prog ops Q (o :: rest) a w := by
  obtain ⟨i0, hi, hz0, hz1, hz2⟩ := info_parts info_bs
  have hown := h.own
  have hrs := h.rows
  have hsl2 := hs.sl
  have hrs2 := hs.rows
  have hone := one_slice (rows_slice hsl2 hs.len hrs2)
  obtain ⟨A', c', w', hr, h2, hfr, hA', hown'⟩ := run_append_fr (P := Tryd.prog) 33 33 o.type i0 (.slice none 0 0) 24 Tryd.underlying33 hi hz0 hz1 hz2 rfl (by decide) hown hB h.blk (.slice A2 m c2) m vs2 (hsl2.src Tryd.underlying33 (by decide) hone) (by unfold maxLen; omega) (by omega)
  refine wpList_plain hgd fun _ hK => ?_
  unfold Oper.wp execOp
  simp only [ho, resolve, invoke, builtin, Sem.run_bind, Sem.run_pure, Result.andThen_ok, List.map_toArray, List.map_cons, List.map_nil, hv, hx, hr]
  refine hK _ _ (hk A' c' w' ⟨h2, fun i r hir => ?_, by rw [List.length_append, h.len, hs.len], hown'⟩ (hfr.below hB (fun k ⟨o, e⟩ => (h.blk k o e).1)) hfr.size hfr)
  have hvl := hown.sl.len
  rw [Nat.mul_one] at hvl
  have new : ∀ A'' c'', Sl w 1 A'' r.length c'' (cells r) → Oth A A'' r.length → Sl w' 1 A'' r.length c'' (cells r) ∧ Oth A' A'' r.length := by
    intro A'' c'' hsr hot
    refine ⟨hsr.oth hfr hot, fun b o o' hn e e' => ?_⟩
    rcases hA' with rfl | rfl
    · exact hot b o o' hn e e'
    · injection e' with e'
      injection e' with e' _
      have := hsr.lt (by decide) hn e
      omega
  rcases Nat.lt_or_ge i n with hlt | hge
  · rw [List.getElem?_append_left (by rw [h.len]; exact hlt)] at hir
    obtain ⟨A'', c'', e1, e2, e3⟩ := hrs i r hir
    exact ⟨A'', c'', by rw [List.getElem?_append_left (by rw [hvl]; exact hlt)]; exact e1, new A'' c'' e2 e3⟩
  · rw [List.getElem?_append_right (by rw [h.len]; exact hge), h.len] at hir
    obtain ⟨A'', c'', e1, e2⟩ := hrs2 (i - n) r hir
    exact ⟨A'', c'', by rw [List.getElem?_append_right (by rw [hvl]; exact hge), hvl]; exact e1, new A'' c'' e2 (hfar (i - n) r A'' c'' hir e1)⟩
/-- append of rows onto rows of the call's own. -/
theorem wpList_append_g {w : World} {B n c : Nat} {A : Option Addr} {rs : List (List UInt8)} {ops : Array Oper} {rest : List Oper} {o : Oper} {a : Act} {Q : Exit → Act → World → Prop} (hgd : o.guard = none) (s x : Operand)
    (ho : o.op = .call { callee := .builtin .append, args := #[s, x], argTypes := #[33, 33] })
    (hv : a.eval s = .slice A n c) (h : Gg w B A n c rs) (hB : B ≤ w.heap.size)
    (A2 : Option Addr) (m c2 : Nat) (ys : List (List UInt8)) (hx : a.eval x = .slice A2 m c2) (hs : Gr w A2 m c2 ys) (h40 : n + m ≤ 1048576)
    (hfar : ∀ b o i r A' c', A2 = some ⟨b, o, none⟩ → ys[i]? = some r → w.cell? ⟨b, o + i, none⟩ = some (.slice A' r.length c') → Oth A A' r.length)
    (hk : ∀ A' c' w', Gg w' B A' (n + m) c' (rs ++ ys) → Below B w w' → w.heap.size ≤ w'.heap.size → Fr (Blk A) w w' → wpList Tryd.prog ops Q rest (a.put o.dst (.slice A' (n + m) c')) w') : wpList Tryd.prog ops Q (o :: rest) a w := by
  obtain ⟨vs, hown, hrs⟩ := h.ex
  obtain ⟨vs2, hsl2, hrs2⟩ := hs.ex
  refine wpList_append_gV hgd s x ho hv ⟨hown, hrs, h.len, h.own⟩ hB A2 m c2 ys vs2 hx ⟨hsl2, hrs2, hs.len⟩ h40 (fun i r A' c' hir e1 => ?_) fun A' c' w' hg hb hsz hf => hk A' c' w' hg.gg hb hsz hf
  have hi2 : i < m := by
    rcases Nat.lt_or_ge i m with h' | h'
    · exact h'
    · rw [List.getElem?_eq_none (by rw [hs.len]; exact h')] at hir
      cases hir
  obtain ⟨b, o, e, hc⟩ := hsl2.at_ hi2
  exact hfar b o i r A' c' e hir (hc i _ e1)

/-- append of one row that the call made. -/
theorem wpList_append_g1 {w : World} {B n c : Nat} {A : Option Addr} {rs : List (List UInt8)} {ops : Array Oper} {rest : List Oper} {o : Oper} {a : Act} {Q : Exit → Act → World → Prop} (hgd : o.guard = none) (s x : Operand)
    (ho : o.op = .call { callee := .builtin .append, args := #[s, x], argTypes := #[33, 33] })
    (hv : a.eval s = .slice A n c) (h : Gg w B A n c rs) (hB : B ≤ w.heap.size) (A1 : Option Addr) (n1 c1 : Nat) (r : List UInt8) (hn1 : n1 = r.length) (hr : Sl w 1 A1 n1 c1 (cells r)) (hoth : Oth A A1 n1)
    (hx : a.eval x = .slice (some ⟨w.heap.size, 0, none⟩) 1 1) (h40 : n + 1 ≤ 1048576)
    (hk : ∀ A' c' w', Gg w' B A' (n + 1) c' (rs ++ [r]) → Below B w w' → Fr (Blk A) w w' → wpList Tryd.prog ops Q rest (a.put o.dst (.slice A' (n + 1) c')) w') :
    wpList Tryd.prog ops Q (o :: rest) a (w.alloc (.cells #[.slice A1 n1 c1] 26)) := by
  subst hn1
  have hb0 : Below w.heap.size w (w.alloc (.cells #[.slice A1 r.length c1] 26)) := (Below.refl _ _).alloc (Nat.le_refl _) _
  have hg := heap_alloc_new w (.cells #[.slice A1 r.length c1] 26)
  refine wpList_append_g (B := B) hgd s x ho hv (h.later hb0) (Nat.le_trans hB hb0.size) (some ⟨w.heap.size, 0, none⟩) 1 1 [r] hx (Gr.one hg (hr.below hb0 (Nat.le_refl _))) h40 ?_ ?_
  · intro b o' i r' A' c' e hi hc
    rcases i with _ | i
    · simp at hi
      subst hi
      injection e with e
      injection e with e1 e2
      subst e1; subst e2
      rw [cell_of_row _ _ _ _ _ _ hg] at hc
      simp at hc
      obtain ⟨rfl, _⟩ := hc
      exact hoth
    · simp at hi
  · intro A' c' w' hg' hb' _ hf'
    exact hk A' c' w' hg' ((hb0.mono hB).trans hb') ((Fr.of_below hb0).trans hf')

/-- Rows of the call's own, each in a block of its own, from B on and below H; its cells may be written. -/
structure Sep (w : World) (B H : Nat) (f : Nat → Option Value) (rs : List (List UInt8)) : Prop where
  row : ∀ (i : Nat) (r : List UInt8), rs[i]? = some r → 0 < r.length → ∃ g c, f i = some (Value.slice (some ⟨g, 0, none⟩) r.length c) ∧ g < H ∧ Mine w B 5 (some ⟨g, 0, none⟩) r.length (cells r)
  apart : ∀ (i j g n n' c c' : Nat) (r s : List UInt8), i < j → rs[i]? = some r → rs[j]? = some s → 0 < r.length → 0 < s.length → f i = some (Value.slice (some ⟨g, 0, none⟩) n c) → f j = some (Value.slice (some ⟨g, 0, none⟩) n' c') → False
section
variable {w w' : World} {B H : Nat} {f : Nat → Option Value} {rs : List (List UInt8)}
theorem Sep.nil (w : World) (B H : Nat) (f : Nat → Option Value) : Sep w B H f [] := ⟨fun i r h => by simp at h, fun i j g n n' c c' r s _ h => by simp at h⟩
theorem Sep.later (h : Sep w B H f rs) (hb : Below w.heap.size w w') : Sep w' B H f rs :=
  ⟨fun i r hi hr => by
    obtain ⟨g, c, h1, h2, h3⟩ := h.row i r hi hr
    exact ⟨g, c, h1, h2, h3.later hb⟩, h.apart⟩
theorem Sep.up {H' : Nat} (h : Sep w B H f rs) (hH : H ≤ H') : Sep w B H' f rs :=
  ⟨fun i r hi hr => by
    obtain ⟨g, c, h1, h2, h3⟩ := h.row i r hi hr
    exact ⟨g, c, h1, Nat.lt_of_lt_of_le h2 hH, h3⟩, h.apart⟩
theorem Sep.lower {B' : Nat} (h : Sep w B H f rs) (hB : B' ≤ B) : Sep w B' H f rs :=
  ⟨fun i r hi hr => by
    obtain ⟨g, c, h1, h2, h3⟩ := h.row i r hi hr
    exact ⟨g, c, h1, h2, h3.lower hB⟩, h.apart⟩
theorem Sep.frS {S : Nat → Prop} (h : Sep w B H f rs) (hf : Fr S w w') (hS : ∀ (i : Nat) (r : List UInt8) (g n c : Nat), rs[i]? = some r → 0 < r.length → f i = some (Value.slice (some ⟨g, 0, none⟩) n c) → ¬ S g) : Sep w' B H f rs :=
  ⟨fun i r hi hr => by
    obtain ⟨g, c, h1, h2, h3⟩ := h.row i r hi hr
    refine ⟨g, c, h1, h2, fun hn => ?_⟩
    obtain ⟨g', cur, e, hB, hg, hs, ht⟩ := h3 hn
    injection e with e
    injection e with e _
    subst e
    exact ⟨g, cur, rfl, hB, hf.row_some hg (hS i r g r.length c hi hr h1), hs, ht⟩, h.apart⟩
theorem Sep.one {r : List UInt8} {A : Option Addr} {c : Nat} (h : Mine w B 5 A r.length (cells r)) : Sep w B w.heap.size (fun _ => some (.slice A r.length c)) [r] :=
  ⟨fun i x hi hr => by
    rcases i with _ | i
    · simp at hi
      subst hi
      have h0 := h
      obtain ⟨g, cur, e, hB, hg, _⟩ := h hr
      subst e
      exact ⟨g, c, rfl, block_lt hg, h0⟩
    · simp at hi, fun i j g n n' c c' r' s hij hi hj => by
    rcases j with _ | j
    · omega
    · simp at hj⟩
/-- Rows behind rows. -/
theorem Sep.app {B0 H0 B2 H2 : Nat} {f2 f' : Nat → Option Value} {ps : List (List UInt8)} (h : Sep w B H f rs) (h2 : Sep w B2 H2 f2 ps) (hd : H ≤ B2 ∨ H2 ≤ B) (b1 : B0 ≤ B) (b2 : B0 ≤ B2) (k1 : H ≤ H0) (k2 : H2 ≤ H0)
    (e1 : ∀ i, i < rs.length → f' i = f i) (e2 : ∀ i, i < ps.length → f' (rs.length + i) = f2 i) : Sep w B0 H0 f' (rs ++ ps) := by
  have inL : ∀ {i : Nat} {r : List UInt8}, rs[i]? = some r → i < rs.length := fun {i r} hi => by
    rcases Nat.lt_or_ge i rs.length with h' | h'
    · exact h'
    · rw [List.getElem?_eq_none h'] at hi
      cases hi
  have inR : ∀ {i : Nat} {r : List UInt8}, ps[i]? = some r → i < ps.length := fun {i r} hi => by
    rcases Nat.lt_or_ge i ps.length with h' | h'
    · exact h'
    · rw [List.getElem?_eq_none h'] at hi
      cases hi
  refine ⟨fun i r hi hr => ?_, fun i j g n n' c c' r s hij hi hj hr hs hfi hfj => ?_⟩
  · rcases Nat.lt_or_ge i rs.length with hl | hl
    · rw [List.getElem?_append_left hl] at hi
      obtain ⟨g, c, q1, q2, q3⟩ := h.row i r hi hr
      exact ⟨g, c, (e1 i hl).trans q1, Nat.lt_of_lt_of_le q2 k1, q3.lower b1⟩
    · rw [List.getElem?_append_right hl] at hi
      obtain ⟨g, c, q1, q2, q3⟩ := h2.row _ r hi hr
      have := e2 _ (inR hi)
      rw [show rs.length + (i - rs.length) = i from by omega] at this
      exact ⟨g, c, this.trans q1, Nat.lt_of_lt_of_le q2 k2, q3.lower b2⟩
  · rcases Nat.lt_or_ge j rs.length with hl | hl
    · rw [List.getElem?_append_left (by omega)] at hi
      rw [List.getElem?_append_left hl] at hj
      exact h.apart i j g n n' c c' r s hij hi hj hr hs ((e1 i (by omega)).symm.trans hfi) ((e1 j hl).symm.trans hfj)
    · rw [List.getElem?_append_right hl] at hj
      have e3 := e2 _ (inR hj)
      rw [show rs.length + (j - rs.length) = j from by omega] at e3
      rw [e3] at hfj
      rcases Nat.lt_or_ge i rs.length with hl2 | hl2
      · rw [List.getElem?_append_left hl2] at hi
        rw [e1 i hl2] at hfi
        obtain ⟨g1, c1, q1, q2, q3⟩ := h.row i r hi hr
        obtain ⟨g2, c2, p1, p2, p3⟩ := h2.row _ s hj hs
        rw [q1] at hfi; injection hfi with hfi; injection hfi with hfi; injection hfi with hfi; injection hfi with hfi
        rw [p1] at hfj; injection hfj with hfj; injection hfj with hfj; injection hfj with hfj; injection hfj with hfj
        obtain ⟨y1, _, z1, zB, _⟩ := q3 hr
        obtain ⟨y2, _, z2, zB2, _⟩ := p3 hs
        injection z1 with z1; injection z1 with z1
        injection z2 with z2; injection z2 with z2
        omega
      · rw [List.getElem?_append_right hl2] at hi
        have e4 := e2 _ (inR hi)
        rw [show rs.length + (i - rs.length) = i from by omega] at e4
        rw [e4] at hfi
        exact h2.apart _ _ g n n' c c' r s (by omega) hi hj hr hs hfi hfj
theorem Sep.ge (h : Sep w B H f rs) {i g n c : Nat} {r : List UInt8} (hi : rs[i]? = some r) (hr : 0 < r.length) (hf : f i = some (Value.slice (some ⟨g, 0, none⟩) n c)) : B ≤ g ∧ g < H := by
  obtain ⟨g1, c1, q1, q2, q3⟩ := h.row i r hi hr
  obtain ⟨y1, _, z1, zB, _⟩ := q3 hr
  injection z1 with z1; injection z1 with z1
  rw [q1] at hf; injection hf with hf; injection hf with hf; injection hf with hf; injection hf with hf
  omega
/-- A byte of a row is written. -/
theorem Sep.set (h : Sep w B H f rs) {a p g c : Nat} {r : List UInt8} (ha : rs[a]? = some r) (hp : p < r.length) (hf : f a = some (Value.slice (some ⟨g, 0, none⟩) r.length c)) (u : UInt8) :
    Sep (w.setCell ⟨g, p, none⟩ (.int .u8 (u.toNat : Int))) B H f (rs.set a (r.set p u)) := by
  have hal : a < rs.length := by
    rcases Nat.lt_or_ge a rs.length with h' | h'
    · exact h'
    · rw [List.getElem?_eq_none h'] at ha
      cases ha
  have hfr : Fr (fun k => k = g) w (w.setCell ⟨g, p, none⟩ (.int .u8 (u.toNat : Int))) := Fr.setCell (S := fun k => k = g) (Fr.refl _ _) (.inr rfl) _
  have hget : ∀ (i : Nat) (x : List UInt8), (rs.set a (r.set p u))[i]? = some x → ∃ y : List UInt8, rs[i]? = some y ∧ y.length = x.length := fun i x hi => by
    by_cases hia : i = a
    · subst hia
      rw [List.getElem?_set_self hal] at hi
      injection hi with hi
      exact ⟨r, ha, by rw [← hi, List.length_set]⟩
    · rw [List.getElem?_set_ne (fun e => hia e.symm)] at hi
      exact ⟨x, hi, rfl⟩
  refine ⟨fun i x hi hx => ?_, fun i j g n n' c c' x y hij hi hj hx hy hfi hfj => ?_⟩
  · by_cases hia : i = a
    · subst hia
      rw [List.getElem?_set_self hal] at hi
      injection hi with hi
      subst hi
      obtain ⟨g1, c1, q1, q2, q3⟩ := h.row i r ha (by omega)
      rw [q1] at hf; injection hf with hf; injection hf with hf hf2 hf3; injection hf with hf; injection hf with hf
      subst hf
      exact ⟨g1, c1, by rw [List.length_set]; exact q1, q2, by rw [List.length_set]; exact q3.set hp u⟩
    · rw [List.getElem?_set_ne (fun e => hia e.symm)] at hi
      obtain ⟨g1, c1, q1, q2, q3⟩ := h.row i x hi hx
      refine ⟨g1, c1, q1, q2, fun hn => ?_⟩
      obtain ⟨g', cur, e, hB, hg, hs, ht⟩ := q3 hn
      injection e with e
      injection e with e _
      subst e
      refine ⟨g1, cur, rfl, hB, hfr.row_some hg fun hk => ?_, hs, ht⟩
      have hk : g1 = g := hk
      subst hk
      rcases Nat.lt_or_ge i a with h' | h'
      · exact h.apart i a g1 _ _ _ _ x r h' hi ha hx (by omega) q1 hf
      · exact h.apart a i g1 _ _ _ _ r x (by omega) ha hi (by omega) hx hf q1
  · obtain ⟨x', h1, l1⟩ := hget i x hi
    obtain ⟨y', h2, l2⟩ := hget j y hj
    exact h.apart i j g n n' c c' x' y' hij h1 h2 (by omega) (by omega) hfi hfj
end

/-- Rows of the call's own, in a slice that lies elsewhere: each row's cells may be written. -/
structure Gm (w : World) (B : Nat) (A : Option Addr) (n c : Nat) (rs : List (List UInt8)) : Prop where
  ex : ∃ vs : List Value, GrV w A n c rs vs ∧ Sep w B w.heap.size (fun i => vs[i]?) rs ∧ ∀ (i : Nat) (r : List UInt8) (A' : Option Addr) (c' : Nat), rs[i]? = some r → vs[i]? = some (Value.slice A' r.length c') → Oth A A' r.length
section
variable {w w' : World} {B n c : Nat} {A : Option Addr} {rs : List (List UInt8)}
theorem Gm.gr (h : Gm w B A n c rs) : Gr w A n c rs := by
  obtain ⟨vs, h1, _⟩ := h.ex
  exact h1.gr
theorem Gm.later (h : Gm w B A n c rs) (hb : Below w.heap.size w w') : Gm w' B A n c rs := by
  obtain ⟨vs, h1, h2, h3⟩ := h.ex
  exact ⟨⟨vs, h1.later hb, (h2.later hb).up hb.size, h3⟩⟩
theorem Gm.lower {B' : Nat} (h : Gm w B A n c rs) (hB : B' ≤ B) : Gm w B' A n c rs := by
  obtain ⟨vs, h1, h2, h3⟩ := h.ex
  exact ⟨⟨vs, h1, h2.lower hB, h3⟩⟩
/-- A row, and a byte of it, that is written. -/
theorem Gm.at_ (h : Gm w B A n c rs) {a : Nat} {r : List UInt8} (ha : rs[a]? = some r) (hr : 0 < r.length) :
    ∃ b o g cc, A = some ⟨b, o, none⟩ ∧ b ≠ g ∧ B ≤ g ∧ w.cell? ⟨b, o + a, none⟩ = some (Value.slice (some ⟨g, 0, none⟩) r.length cc) ∧ (∀ p, p < r.length → w.cell? ⟨g, p, none⟩ = some (.int .u8 ((r.getD p 0).toNat : Int)) ∧ w.frozen? ⟨g, p, none⟩ = false) ∧
      ∀ p u, p < r.length → Gm (w.setCell ⟨g, p, none⟩ (.int .u8 (u.toNat : Int))) B A n c (rs.set a (r.set p u)) := by
  obtain ⟨vs, h1, h2, h3⟩ := h.ex
  have han : a < n := by
    rcases Nat.lt_or_ge a n with h' | h'
    · exact h'
    · rw [List.getElem?_eq_none (by rw [h1.len]; exact h')] at ha
      cases ha
  have hal : a < rs.length := by rw [h1.len]; exact han
  obtain ⟨b, o, eA, hc⟩ := h1.sl.at_ han
  obtain ⟨g, cc, q1, q2, q3⟩ := h2.row a r ha hr
  have hoth := h3 a r _ _ ha q1
  have hgB : B ≤ g := by
    obtain ⟨g', _, e, hB, _⟩ := q3 hr
    injection e with e; injection e with e _
    omega
  have hbg : b ≠ g := fun e => hoth g 0 o hr rfl (by rw [eA, e])
  refine ⟨b, o, g, cc, eA, hbg, hgB, hc a _ q1, fun p hp => ?_, fun p u hp => ?_⟩
  · obtain ⟨g', e, _, hcell, hz⟩ := q3.at_ hp (u := r.getD p 0) (by rw [List.getD_eq_getElem?_getD, List.getElem?_eq_getElem hp]; rfl)
    injection e with e; injection e with e _
    subst e
    exact ⟨hcell, hz⟩
  · have hfr : Fr (fun k => k = g) w (w.setCell ⟨g, p, none⟩ (.int .u8 (u.toNat : Int))) := Fr.setCell (S := fun k => k = g) (Fr.refl _ _) (.inr rfl) _
    have hsz : (w.setCell ⟨g, p, none⟩ (.int .u8 (u.toNat : Int))).heap.size = w.heap.size := by simp
    have hsep := h2.set ha hp q1 u
    refine ⟨⟨vs, ⟨h1.sl.fr hfr fun b' o' hn e hk => ?_, fun i x hi => ?_, by rw [List.length_set]; exact h1.len⟩, by rw [hsz]; exact hsep, fun i x A' c' hi hv => ?_⟩⟩
    · have hk : b' = g := hk
      rw [eA] at e; injection e with e; injection e with e _
      omega
    · by_cases hia : i = a
      · subst hia
        rw [List.getElem?_set_self hal] at hi
        injection hi with hi
        subst hi
        obtain ⟨g', c', w1, w2, w3⟩ := hsep.row i _ (List.getElem?_set_self hal) (by rw [List.length_set]; exact hr)
        obtain ⟨A2, c2, v1, v2⟩ := h1.rows i r ha
        refine ⟨some ⟨g', 0, none⟩, c', w1, ?_⟩
        rw [w1] at v1
        injection v1 with v1
        injection v1 with v1 _ v3
        exact w3.sl rfl (by have := v2.cap; rw [List.length_set]; omega) (by have := v2.top; omega)
      · rw [List.getElem?_set_ne (fun e => hia e.symm)] at hi
        obtain ⟨A2, c2, v1, v2⟩ := h1.rows i x hi
        refine ⟨A2, c2, v1, v2.fr hfr fun b' o' hn e hk => ?_⟩
        have hk : b' = g := hk
        subst hk
        obtain ⟨g1, c1, y1, _, y3⟩ := h2.row i x hi hn
        have y1 : vs[i]? = some (Value.slice (some ⟨g1, 0, none⟩) x.length c1) := y1
        rw [y1] at v1; injection v1 with v1; injection v1 with v1
        rw [e] at v1; injection v1 with v1; injection v1 with v1
        subst v1
        rcases Nat.lt_or_ge i a with h' | h'
        · exact h2.apart i a g1 _ _ _ _ x r h' hi ha hn hr y1 q1
        · exact h2.apart a i g1 _ _ _ _ r x (by omega) ha hi hr hn q1 y1
    · by_cases hia : i = a
      · subst hia
        rw [List.getElem?_set_self hal] at hi
        injection hi with hi
        subst hi
        rw [List.length_set] at hv ⊢
        exact h3 i r A' c' ha hv
      · rw [List.getElem?_set_ne (fun e => hia e.symm)] at hi
        exact h3 i x A' c' hi hv
end

/-- Rows that are filled one by one: at block g lie m places, the first ones hold rs; their bytes lie elsewhere. -/
structure Fil (w : World) (g m : Nat) (cur : Array Value) (rs : List (List UInt8)) : Prop where
  row : w.heap[g]? = some (.cells cur 26 (0, 0))
  size : cur.size = m
  le : rs.length ≤ m
  rows : ∀ (i : Nat) (r : List UInt8), rs[i]? = some r → ∃ A c, cur[i]? = some (Value.slice A r.length c) ∧ Sl w 1 A r.length c (cells r) ∧ ∀ b o, 0 < r.length → A = some ⟨b, o, none⟩ → b ≠ g
section
variable {w w' : World} {g m : Nat} {cur : Array Value} {rs : List (List UInt8)}
theorem Fil.made (w : World) (k : Nat) : Fil (w.alloc (.cells (madeCells #[.slice none 0 0] k) 26)) w.heap.size k (madeCells #[.slice none 0 0] k) [] :=
  ⟨heap_alloc_new w _, by rw [size_madeCells], Nat.zero_le _, fun i r h => by simp at h⟩
theorem Fil.later (h : Fil w g m cur rs) (hb : Below w.heap.size w w') : Fil w' g m cur rs :=
  ⟨(hb.block _ (block_lt h.row)).trans h.row, h.size, h.le, fun i r hi => by
    obtain ⟨A, c, h1, h2, h3⟩ := h.rows i r hi
    exact ⟨A, c, h1, h2.below hb (Nat.le_refl _), h3⟩⟩
theorem Fil.free (h : Fil w g m cur rs) (i : Nat) : w.frozen? ⟨g, i, none⟩ = false := frozen_of_row _ _ _ _ _ h.row
theorem Fil.has (h : Fil w g m cur rs) {i : Nat} (hi : i < m) : ∃ v, w.cell? ⟨g, i, none⟩ = some v := by
  rw [cell_of_row _ _ _ _ _ _ h.row]
  exact ⟨_, Array.getElem?_eq_getElem (by rw [h.size]; exact hi)⟩
/-- The next one: what else lay in memory lies there still. -/
theorem Fil.next (h : Fil w g m cur rs) (hf : Fr (fun k => k = g) w w') {k : Nat} (hk : rs.length = k) (hkm : k < m) {A : Option Addr} {c : Nat} {r : List UInt8} (hg : w'.heap[g]? = some (.cells (cur.setIfInBounds k (.slice A r.length c)) 26 (0, 0))) (hs : Sl w' 1 A r.length c (cells r)) (hA : ∀ b o, 0 < r.length → A = some ⟨b, o, none⟩ → b ≠ g) :
    Fil w' g m (cur.setIfInBounds k (.slice A r.length c)) (rs ++ [r]) := by
  refine ⟨hg, by rw [Array.size_setIfInBounds]; exact h.size, by rw [List.length_append, List.length_singleton]; omega, fun i x hi => ?_⟩
  rcases Nat.lt_or_ge i k with hlt | hge
  · rw [List.getElem?_append_left (by omega)] at hi
    obtain ⟨A', c', h1, h2, h3⟩ := h.rows i x hi
    exact ⟨A', c', by rw [Array.getElem?_setIfInBounds, if_neg (by omega)]; exact h1, h2.fr hf (fun b o hn e hb => h3 b o hn e hb), h3⟩
  · rw [List.getElem?_append_right (by omega), hk] at hi
    obtain rfl : i = k := by
      rcases Nat.lt_or_ge (i - k) 1 with h' | h'
      · omega
      · rw [List.getElem?_eq_none (by simpa using h')] at hi
        cases hi
    rw [Nat.sub_self] at hi
    injection hi with hi
    subst hi
    exact ⟨A, c, by rw [Array.getElem?_setIfInBounds, if_pos rfl, if_pos (by rw [h.size]; exact hkm)], hs, hA⟩
theorem Fil.grV (h : Fil w g m cur rs) (hl : rs.length = m) (hm : m ≤ maxLen) : GrV w (some ⟨g, 0, none⟩) m m rs cur.toList := by
  refine ⟨⟨by rw [Array.length_toList, h.size, Nat.mul_one], Nat.le_refl _, hm, fun j u hu => ⟨g, 0, rfl, ?_⟩⟩, fun i r hi => ?_, hl⟩
  · rw [cell_of_row _ _ _ _ _ _ h.row, Nat.zero_add]
    simpa using hu
  · obtain ⟨A, c, h1, h2, _⟩ := h.rows i r hi
    exact ⟨A, c, by simpa using h1, h2⟩
theorem Fil.gr (h : Fil w g m cur rs) (hl : rs.length = m) (hm : m ≤ maxLen) : Gr w (some ⟨g, 0, none⟩) m m rs := by
  refine ⟨⟨cur.toList, ⟨by rw [Array.length_toList, h.size, Nat.mul_one], Nat.le_refl _, hm, fun j u hu => ⟨g, 0, rfl, ?_⟩⟩, fun i r hi => ?_⟩, hl⟩
  · rw [cell_of_row _ _ _ _ _ _ h.row, Nat.zero_add]
    simpa using hu
  · obtain ⟨A, c, h1, h2, _⟩ := h.rows i r hi
    exact ⟨A, c, by simpa using h1, h2⟩
end

theorem Fil.put {w w' : World} {g m : Nat} {cur : Array Value} {rs : List (List UInt8)} (h : Fil w g m cur rs) (hf : Fr (fun k => k = g) w w') {j : Nat} (hj : j < m) {A : Option Addr} {c : Nat} {r : List UInt8} (hg : w'.heap[g]? = some (.cells (cur.setIfInBounds j (.slice A r.length c)) 26 (0, 0))) (hs : Sl w' 1 A r.length c (cells r)) (hA : ∀ b o, 0 < r.length → A = some ⟨b, o, none⟩ → b ≠ g) :
    Fil w' g m (cur.setIfInBounds j (.slice A r.length c)) (rs.set j r) := by
  refine ⟨hg, by rw [Array.size_setIfInBounds]; exact h.size, by rw [List.length_set]; exact h.le, fun i x hi => ?_⟩
  rw [List.getElem?_set] at hi
  split at hi
  · rename_i hij
    subst hij
    split at hi
    · injection hi with hi
      subst hi
      exact ⟨A, c, by rw [Array.getElem?_setIfInBounds, if_pos rfl, if_pos (by rw [h.size]; exact hj)], hs, hA⟩
    · cases hi
  · rename_i hij
    obtain ⟨A', c', h1, h2, h3⟩ := h.rows i x hi
    exact ⟨A', c', by rw [Array.getElem?_setIfInBounds, if_neg hij]; exact h1, h2.fr hf (fun b o hn e hb => h3 b o hn e hb), h3⟩
theorem Fil.off {w : World} {g m : Nat} {cur : Array Value} {rs : List (List UInt8)} (h : Fil w g m cur rs) (hl : rs.length = m) {A : Option Addr} {n c : Nat} {l : List UInt8} (hs : Sl w 1 A n c (cells l)) {b o : Nat} (hn : 0 < n) (hA : A = some ⟨b, o, none⟩) : b ≠ g := by
  rintro rfl
  obtain ⟨b', o', e, hc⟩ := hs.at_ hn
  rw [hA] at e
  injection e with e
  injection e with e1 e2
  subst e1; subst e2
  have hll := hs.len
  rw [cells_length, Nat.mul_one] at hll
  have h0 := hc 0 _ (cells_get l 0 (by omega))
  rw [cell_of_row _ _ _ _ _ _ h.row, Nat.add_zero] at h0
  have ho : o < rs.length := by
    rw [hl, ← h.size]
    rcases Nat.lt_or_ge o cur.size with h' | h'
    · exact h'
    · rw [Array.getElem?_eq_none h'] at h0
      cases h0
  obtain ⟨x, y, e, _⟩ := h.rows o _ (List.getElem?_eq_getElem ho)
  rw [e] at h0
  injection h0 with h0
  cases h0
/-- A slice of rows whose cells lie in another block than g stays, when g's own turn. -/
theorem Gr.offG {w w' : World} {g m : Nat} {cur : Array Value} {ds : List (List UInt8)} (h : Fil w g m cur ds) (hl : ds.length = m) {A : Option Addr} {n c : Nat} {rs : List (List UInt8)} (hg : Gr w A n c rs) (hA : ∀ b o, A = some ⟨b, o, none⟩ → b ≠ g) (hf : Fr (fun k => k = g) w w') : Gr w' A n c rs := by
  obtain ⟨vs, hs, hr⟩ := hg.ex
  refine ⟨⟨vs, hs.fr hf fun b o _ e => hA b o e, fun i r hi => ?_⟩, hg.len⟩
  obtain ⟨A', c', h1, h2⟩ := hr i r hi
  exact ⟨A', c', h1, h2.fr hf fun b o hn e => h.off hl h2 hn e⟩

/-- make([][]byte, 0, z). -/
theorem makes0_eq (z : Int) (k : Nat) (hz : z = (k : Int)) (hk : k ≤ 1048576) (w : World) :
    (Instr.makeSlice 33 (.int .i64 0) (.int .i64 z)).run Tryd.prog w = .ok (.slice (some ⟨w.heap.size, 0, none⟩) 0 k) (w.alloc (.cells (madeCells #[.slice none 0 0] k) 26)) := by
  obtain ⟨i0, hi, hz0, hz1, hz2⟩ := info_parts info_bs
  subst hz
  have h := run_make (P := Tryd.prog) w 33 26 i0 (.slice none 0 0) Tryd.underlying33 hi hz0 .i64 .i64 (0 : Int) (k : Int) (by omega) (by omega) (by rw [hz2]; omega) (by omega)
  rw [hz1, Nat.mul_one, Int.toNat_natCast] at h
  exact h
/-- While rows are filled into block g, one by one: what lay in w0 lies there still. -/
structure Enc (w0 : World) (g m : Nat) (cur : Array Value) (ps : List (List UInt8)) (w : World) : Prop where
  bel : Below w0.heap.size w0 w
  fil : Fil w g m cur ps
  new : w0.heap.size ≤ g
theorem Enc.later {w0 w w' : World} {g m : Nat} {cur : Array Value} {ps : List (List UInt8)} (h : Enc w0 g m cur ps w) (hb : Below w.heap.size w w') : Enc w0 g m cur ps w' := ⟨h.bel.trans (hb.mono h.bel.size), h.fil.later hb, h.new⟩
theorem Enc.store {w0 w w' : World} {g m : Nat} {cur : Array Value} {ps : List (List UInt8)} (h : Enc w0 g m cur ps w) {k : Nat} (hk : ps.length = k) (hkm : k < m) {A : Option Addr} {c : Nat} {r : List UInt8} (hf : Fr (fun k => k = g) w w')
    (hg : w'.heap[g]? = some (.cells (cur.setIfInBounds k (.slice A r.length c)) 26 (0, 0))) (hs : Sl w 1 A r.length c (cells r)) (hA : ∀ b o, 0 < r.length → A = some ⟨b, o, none⟩ → b ≠ g) : Enc w0 g m (cur.setIfInBounds k (.slice A r.length c)) (ps ++ [r]) w' :=
  ⟨h.bel.trans (hf.below h.bel.size (fun k hk => by have hk : k = g := hk; have := h.new; omega)), h.fil.next hf hk hkm hg (hs.fr hf fun b o hn e hk => hA b o hn e hk) hA, h.new⟩

/-- The same, where the rows' bytes are the call's own, each row by itself. -/
structure EncS (w0 : World) (g m : Nat) (cur : Array Value) (ps : List (List UInt8)) (w : World) : Prop where
  enc : Enc w0 g m cur ps w
  sep : Sep w (g + 1) w.heap.size (fun i => cur[i]?) ps
theorem EncS.bel {w0 w : World} {g m : Nat} {cur : Array Value} {ps : List (List UInt8)} (h : EncS w0 g m cur ps w) : Below w0.heap.size w0 w := h.enc.bel
theorem EncS.fil {w0 w : World} {g m : Nat} {cur : Array Value} {ps : List (List UInt8)} (h : EncS w0 g m cur ps w) : Fil w g m cur ps := h.enc.fil
theorem EncS.later {w0 w w' : World} {g m : Nat} {cur : Array Value} {ps : List (List UInt8)} (h : EncS w0 g m cur ps w) (hb : Below w.heap.size w w') : EncS w0 g m cur ps w' := ⟨h.enc.later hb, (h.sep.later hb).up hb.size⟩
theorem EncS.store {w0 w w' : World} {g m : Nat} {cur : Array Value} {ps : List (List UInt8)} (h : EncS w0 g m cur ps w) {k : Nat} (hk : ps.length = k) (hkm : k < m) {A : Option Addr} {c : Nat} {r : List UInt8} (hf : Fr (fun k => k = g) w w')
    (hg : w'.heap[g]? = some (.cells (cur.setIfInBounds k (.slice A r.length c)) 26 (0, 0))) (hs : Sl w 1 A r.length c (cells r)) (hA : ∀ b o, 0 < r.length → A = some ⟨b, o, none⟩ → b ≠ g)
    {H : Nat} (hq : Sep w (g + 1) H (fun i => cur[i]?) ps) (hgH : g + 1 ≤ H) (hHw : H ≤ w.heap.size) (hm : Mine w H 5 A r.length (cells r)) : EncS w0 g m (cur.setIfInBounds k (.slice A r.length c)) (ps ++ [r]) w' := by
  have s1 : Sep w (g + 1) w.heap.size (fun i => (cur.setIfInBounds k (.slice A r.length c))[i]?) (ps ++ [r]) := by
    refine hq.app (Sep.one (c := c) hm) (.inl (Nat.le_refl _)) (Nat.le_refl _) hgH hHw (Nat.le_refl _) (fun i hi => ?_) fun i hi => ?_
    · show (cur.setIfInBounds k (.slice A r.length c))[i]? = cur[i]?
      rw [Array.getElem?_setIfInBounds, if_neg (by omega)]
    · have hi : i < 1 := hi
      obtain rfl : i = 0 := by omega
      show (cur.setIfInBounds k (.slice A r.length c))[ps.length + 0]? = _
      rw [Array.getElem?_setIfInBounds, if_pos (by omega), if_pos (by rw [h.fil.size]; omega)]
  exact ⟨h.enc.store hk hkm hf hg hs hA, (s1.frS hf fun i x g' n' c' hi hx e hk => by
    have := (s1.ge hi hx e).1
    have hk : g' = g := hk
    omega).up hf.size⟩
theorem EncS.gm {w0 w : World} {g m : Nat} {cur : Array Value} {ps : List (List UInt8)} (h : EncS w0 g m cur ps w) (hl : ps.length = m) (hm : m ≤ maxLen) : Gm w w0.heap.size (some ⟨g, 0, none⟩) m m ps := by
  refine ⟨⟨cur.toList, h.fil.grV hl hm, ?_, fun i r A' c' hi hv => ?_⟩⟩
  · have := h.sep.lower (B' := w0.heap.size) (by have := h.enc.new; omega)
    have e : (fun (i : Nat) => cur.toList[i]?) = fun (i : Nat) => cur[i]? := by funext i; simp
    rw [e]
    exact this
  · intro b o o' hn e1 e2
    obtain ⟨A2, c2, h1, _, h3⟩ := h.fil.rows i r hi
    rw [Array.getElem?_toList] at hv
    rw [hv] at h1
    injection h1 with h1
    injection h1 with h1
    injection e2 with e2
    injection e2 with e2
    subst e2
    exact h3 g o hn (h1.symm.trans e1) rfl
end Go.Proofs.YtpijfghklgmefaaDoor

namespace Go.Proofs.YtpijfghklgmefaaDoor
open Go.RowKit
set_option linter.unusedVariables false

set_option maxRecDepth 20000 in
set_option maxHeartbeats 1600000 in
theorem rsame17_any (A : Option Addr) (n c : Nat) (rs : List (List UInt8)) (A2 : Option Addr) (n2 c2 : Nat) (qs : List (List UInt8)) (w : World) (h : Gr w A n c rs) (h2 : Gr w A2 n2 c2 qs) :
    Calls Tryd.prog 16 #[.slice A n c, .slice A2 n2 c2] w fun e w' => e = .returned (.bool (decide (rs = qs))) ∧ Below w.heap.size w w' := by
  have hlim := h.lim
  have hlim2 := h2.lim
  have hlen := h.len
  have hlen2 := h2.len
  unfold maxLen at hlim hlim2
  have H := Lib.hid h; clear h
  have H2 := Lib.hid h2; clear h2
  have Hlen := Lib.hid hlen; clear hlen
  have Hlen2 := Lib.hid hlen2; clear hlen2
  by_cases hn : n = n2
  · subst hn
    go_enter Tryd.func16, Tryd.ntmps16
    go_wp2_with fail
    go_loopw [5] (fun i wr => ∃ j : Nat, j ≤ n ∧ i = .int .i64 (j : Int) ∧ (∀ x, x < j → rs.getD x [] = qs.getD x []) ∧ Below w.heap.size w wr) (fun i _ => n - (intOf i).toNat)
    case atStart => exact ⟨0, by omega, rfl, fun j hj => absurd hj (by omega), Below.refl _ _⟩
    case round =>
      obtain ⟨j, hj, rfl, hall, hb⟩ := hrel
      have Hall := Lib.hid hall; clear hall
      by_cases hlt : j < n
      · obtain ⟨b, o, rfl, hc⟩ := (H.out.later hb).at_ (by omega)
        obtain ⟨A1, c1, hc1, hs1⟩ := hc j _ (H.out.get hlt)
        obtain ⟨b2, o2, rfl, hcc⟩ := (H2.out.later hb).at_ (by omega)
        obtain ⟨A3, c3, hc3, hs3⟩ := hcc j _ (H2.out.get hlt)
        obtain ⟨r, hr⟩ : ∃ r, r = rs.getD j [] := ⟨_, rfl⟩
        obtain ⟨q, hq⟩ : ∃ q, q = qs.getD j [] := ⟨_, rfl⟩
        rw [← hr] at hc1 hs1
        rw [← hq] at hc3 hs3
        have k1 : ∀ u, (convert 26 9 (.slice A1 r.length c1)).run Tryd.prog (wr.drewN u) = .ok (.string (bstr r)) (wr.drewN u) := fun u => str_of (hs1.drewN u)
        have k3 : ∀ u, (convert 26 9 (.slice A3 q.length c3)).run Tryd.prog (wr.drewN u) = .ok (.string (bstr q)) (wr.drewN u) := fun u => str_of (hs3.drewN u)
        clear hc hcc hs1 hs3
        have Hr := Lib.hid hr; clear hr
        have Hq := Lib.hid hq; clear hq
        have hji : (j : Int) < (n : Int) := by omega
        by_cases heq : r = q
        · have hz : ((bstr r).toList == (bstr q).toList) = true := by rw [bstr_toList, bstr_toList]; simpa using heq
          have Heq := Lib.hid heq; clear heq
          go_wp2_with fail
          go_quiet (fail)
          go_wp2_with fail
          go_roundw
          case rel => exact ⟨j + 1, by omega, by go_num, fun x hx => by
            by_cases hxj : x = j
            · subst hxj
              rw [← Hr.out, ← Hq.out, Heq.out]
            · exact Hall.out x (by omega), below_drewN hb nq⟩
          case measure => simp [intOf]; omega
        · have hz : ((bstr r).toList == (bstr q).toList) = false := by rw [bstr_toList, bstr_toList]; simpa using heq
          have Heq := Lib.hid heq; clear heq
          go_wp2_with fail
          go_quiet (fail)
          go_wp2_with fail
          go_ret
          have : decide (rs = qs) = false := decide_eq_false fun hh => Heq.out (by rw [Hr.out, Hq.out, hh])
          exact ⟨by rw [this]; rfl, below_drewN hb nq⟩
      · obtain rfl : j = n := by omega
        go_wp2_with fail
        go_ret
        have : decide (rs = qs) = true := decide_eq_true (by
          apply List.ext_getElem
          · rw [Hlen.out, Hlen2.out]
          · intro x h1 h2
            have := Hall.out x (by rw [← Hlen.out]; exact h1)
            simpa [h1, h2] using this)
        exact ⟨by rw [this]; rfl, hb⟩
  · have hz : ((n : Int) != (n2 : Int)) = true := by simp; omega
    have hd : decide (rs = qs) = false := decide_eq_false fun hh => hn (by rw [← Hlen.out, ← Hlen2.out, hh])
    have Hd := Lib.hid hd; clear hd hn
    go_enter Tryd.func16, Tryd.ntmps16
    go_wp2_with fail
    go_ret
    exact ⟨by rw [Hd.out]; rfl, Below.refl _ _⟩

end Go.Proofs.YtpijfghklgmefaaDoor

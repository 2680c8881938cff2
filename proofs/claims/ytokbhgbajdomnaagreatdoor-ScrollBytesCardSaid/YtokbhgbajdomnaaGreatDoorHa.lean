/-
  Rows of bytes in memory: a slice value that reads as a list of rows ('Gr'), one that grows by append ('Gg'), one that is filled place by place ('Fil'). Nothing here speaks of the program's own functions. No condition. And what goes with it below the laws of layer 13. No condition but what each theorem says.
-/
import Derived.Test.YtokbhgbajdomnaaGreatDoorGc
import Derived.Test.YtokbhgbajdomnaaGreatDoorGa
import Derived.Test.YtokbhgbajdomnaaGreatDoorGe
import Derived.Deep.LoopGhost
set_option linter.unusedVariables false
set_option maxRecDepth 20000
set_option maxHeartbeats 1600000
namespace Go.Proofs.YtokbhgbajdomnaaGreatDoor
section
open Go.RowKit
structure Gr (w : World) (A : Option Addr) (n c : Nat) (rs : List (List UInt8)) : Prop where
 ex : ∃ vs : List Value, Sl w 1 A n c vs ∧ ∀ (i : Nat) (r : List UInt8), rs[i]? = some r → ∃ A' c', vs[i]? = some (Value.slice A' r.length c') ∧ Sl w 1 A' r.length c' (cells r)
 len : rs.length = n
section
variable {w w' : World} {A : Option Addr} {n c : Nat} {rs : List (List UInt8)}
theorem Gr.later (h : Gr w A n c rs) (hb : Below w.heap.size w w') : Gr w' A n c rs := by
 obtain ⟨vs, hs, hr⟩ := h.ex
 refine ⟨⟨vs, hs.below hb (Nat.le_refl _), fun i r hi => ?_⟩, h.len⟩
 obtain ⟨A', c', h1, h2⟩ := hr i r hi
 exact ⟨A', c', h1, h2.below hb (Nat.le_refl _)⟩
theorem Gr.lim (h : Gr w A n c rs) : n ≤ maxLen := by
 obtain ⟨vs, hs, _⟩ := h.ex
 exact hs.lim
theorem Gr.capLe (h : Gr w A n c rs) : n ≤ c ∧ c ≤ maxLen := by
 obtain ⟨vs, hs, _⟩ := h.ex
 exact ⟨hs.cap, hs.top⟩
theorem Gr.at_ (h : Gr w A n c rs) (h0 : 0 < n) : ∃ b o, A = some ⟨b, o, none⟩ ∧ ∀ (i : Nat) (r : List UInt8), rs[i]? = some r → ∃ A' c', w.cell? ⟨b, o + i, none⟩ = some (.slice A' r.length c') ∧ Sl w 1 A' r.length c' (cells r) := by
 obtain ⟨vs, hs, hr⟩ := h.ex
 obtain ⟨b, o, e, hc⟩ := hs.at_ h0
 refine ⟨b, o, e, fun i r hi => ?_⟩
 obtain ⟨A', c', h1, h2⟩ := hr i r hi
 exact ⟨A', c', hc i _ h1, h2⟩
theorem Gr.get (h : Gr w A n c rs) {i : Nat} (hi : i < n) : rs[i]? = some (rs.getD i []) := by
 rw [List.getD_eq_getElem?_getD, List.getElem?_eq_getElem (by rw [h.len]; exact hi), Option.getD_some]
end
def Oth (A : Option Addr) (A' : Option Addr) (n : Nat) : Prop := ∀ b o o', 0 < n → A' = some ⟨b, o, none⟩ → A ≠ some ⟨b, o', none⟩
def Blk (A : Option Addr) : Nat → Prop := fun k => ∃ o, A = some ⟨k, o, Option.none⟩
theorem Sl.oth {w w' : World} {A A' : Option Addr} {n c : Nat} {xs : List Value} (h : Sl w 1 A' n c xs) (hf : Fr (Blk A) w w') (ho : Oth A A' n) : Sl w' 1 A' n c xs :=
 h.fr hf fun b o hn hA ⟨o', hk⟩ => ho b o o' hn hA hk
structure Gg (w : World) (B : Nat) (A : Option Addr) (n c : Nat) (rs : List (List UInt8)) : Prop where
 ex : ∃ vs : List Value, Own w B 40 1 A n c vs ∧ ∀ (i : Nat) (r : List UInt8), rs[i]? = some r → ∃ A' c', vs[i]? = some (Value.slice A' r.length c') ∧ Sl w 1 A' r.length c' (cells r) ∧ Oth A A' r.length
 len : rs.length = n
 own : ∀ b o, A = some ⟨b, o, none⟩ → B ≤ b ∧ b < w.heap.size
theorem run_append_fr {w : World} {B size n c : Nat} {e : TypeId} {A : Option Addr} {xs : List Value} {P : Program} (t tx ty : TypeId) (i : TypeInfo) (z : Value) (bytes : Nat) (ht : P.underlying t = some (.slice e)) (hi : P.info? e = some i) (hz : i.zero = some z)
  (hsize : i.size = size) (hby : i.bytes = bytes) (hzs : z.cells.size = size) (hsz : 0 < size) (h : Own w B e size A n c xs) (hB : B ≤ w.heap.size) (hA : ∀ b o, A = some ⟨b, o, none⟩ → B ≤ b ∧ b < w.heap.size)
  (x : Value) (m : Nat) (ys : List Value) (hs : Src P size tx x m ys w) (h63 : n + m ≤ maxLen) (hbytes : (n + m) * bytes ≤ 140737488355328) :
  ∃ A' c' w', (Builtin.append_ #[t, tx] ty #[.slice A n c, x]).run P w = .ok (.slice A' (n + m) c') w' ∧ Own w' B e size A' (n + m) c' (xs ++ ys) ∧ Fr (Blk A) w w' ∧ (A' = A ∨ A' = some ⟨w.heap.size, 0, none⟩) ∧ (∀ b o, A' = some ⟨b, o, none⟩ → B ≤ b ∧ b < w'.heap.size) := by
 subst hsize
 subst hby
 by_cases hm : m = 0
 ·subst hm
  have hy : ys = [] := List.eq_nil_of_length_eq_zero (by simpa using hs.newsLen)
  subst hy
  exact ⟨A, c, w, run_append_nothing w t tx ty e i ht hi A n c h.sl.cap x hs, by simpa using h, Fr.refl _ _, .inl rfl, hA⟩
 by_cases hroom : n + m ≤ c
 ·rcases h.own with rfl | ho
  ·omega
  obtain ⟨hl, hv⟩ := ho
  rcases hv with ⟨hv, _⟩ | ⟨g, cap, cur, hv, hbg, hg, hnc, hcm, hcs, htake⟩
  ·injection hv with _ h1 h2
   omega
  injection hv with hA' _ hc
  subst hA'; subst hc
  have hfit : n * i.size + ys.length ≤ cur.size := by rw [hs.newsLen, hcs, ← Nat.add_mul]; exact Nat.mul_le_mul_right _ hroom
  have hr := run_append_room_src (P := P) w t tx ty e i ht hi g 0 n c x m ys hs hroom (fun j hj => by simp [World.cell?, hg]; omega) (fun j hj => by simp [World.frozen?, hg])
  rw [Nat.zero_add, setCells_row P hg hfit hs.one] at hr
  have hlen : (xs ++ ys).length = (n + m) * i.size := by rw [List.length_append, hl, hs.newsLen, Nat.add_mul]
  have hown : (w.setRow g (cur.toList.take (n * i.size) ++ ys ++ cur.toList.drop (n * i.size + ys.length)).toArray).ownsRow B e i.size (.slice (some ⟨g, 0, none⟩) (n + m) c) (n + m) (xs ++ ys) := by
   refine ⟨hlen, .inr ⟨g, c, _, rfl, hbg, setRow_heap w g cur _ e _ hg, hroom, hcm, ?_, ?_⟩⟩
   ·simp only [List.size_toArray, List.length_append, List.length_take, List.length_drop, Array.length_toList]
    omega
   ·rw [htake, ← hlen]
    exact List.take_left
  refine ⟨some ⟨g, 0, none⟩, c, _, hr, ⟨⟨hlen, hroom, hcm, fun j u hu => ⟨g, 0, rfl, ?_⟩⟩, .inr hown⟩, ⟨rfl, rfl, rfl, by simp, fun k hk hnk => setRow_other w g k _ (fun e => hnk ⟨0, by rw [e]⟩)⟩, .inl rfl, fun b o e => ⟨(hA b o e).1, by simpa using (hA b o e).2⟩⟩
  have := hown.cells (g := g) rfl j u hu
  rwa [show (⟨g, 0, none⟩ : Addr).add j = ⟨g, 0 + j, none⟩ from by unfold Addr.add; split <;> simp_all] at this
 ·have hc : c < n + m := by omega
  have hr := run_append_grow_src (P := P) w t tx ty e i z ht hi hz A n c xs (h.sl.drew.firstCells) x m ys hs hc (by unfold maxLen at h63; omega) (growslice_fits hc hbytes)
  have hge := grownCap_ge w (n + m) c e
  have hcm : grownCap w (n + m) c e ≤ maxLen := grownCap_le_maxLen w (n + m) c e h63
  have hlen : (xs ++ ys).length = (n + m) * i.size := by rw [List.length_append, h.sl.len, hs.newsLen, Nat.add_mul]
  have hown : (w.drew.alloc (.cells ((xs ++ ys).toArray ++ Builtin.zeroCells z.cells (grownCap w (n + m) c e - (n + m))) e)).ownsRow B e i.size
    (.slice (some ⟨w.heap.size, 0, none⟩) (n + m) (grownCap w (n + m) c e)) (n + m) (xs ++ ys) := by
   refine ⟨hlen, .inr ⟨w.heap.size, _, _, rfl, hB, heap_alloc_new w.drew _, hge, hcm, ?_, ?_⟩⟩
   ·simp only [Array.size_append, List.size_toArray, size_zeroCells, hzs, hlen, ← Nat.add_mul]
    congr 1
    omega
   ·simp only [Array.toList_append]
    rw [← hlen]
    exact List.take_left
  refine ⟨_, _, _, hr, ⟨⟨hlen, hge, hcm, fun j u hu => ⟨w.heap.size, 0, rfl, ?_⟩⟩, .inr hown⟩, Fr.of_below ((Below.drew (Below.refl _ _)).alloc (Nat.le_refl _) _), .inr rfl, fun b o e => ?_⟩
  ·have := hown.cells (g := w.heap.size) rfl j u hu
   rwa [show (⟨w.heap.size, 0, none⟩ : Addr).add j = ⟨w.heap.size, 0 + j, none⟩ from by unfold Addr.add; split <;> simp_all] at this
  ·injection e with e
   injection e with e _
   subst e
   exact ⟨hB, by simp⟩
theorem one_slice {vs : List Value} (h : ∀ v ∈ vs, ∃ A n c, v = Value.slice A n c) : ∀ u ∈ vs, u.oneCell' = true := by
 intro u hu
 obtain ⟨_, _, _, rfl⟩ := h u hu
 rfl
theorem rows_slice {w : World} {A : Option Addr} {n c : Nat} {vs : List Value} {rs : List (List UInt8)} (hs : Sl w 1 A n c vs) (hl : rs.length = n) (h : ∀ (i : Nat) (r : List UInt8), rs[i]? = some r → ∃ A' c', vs[i]? = some (Value.slice A' r.length c') ∧ Sl w 1 A' r.length c' (cells r)) : ∀ v ∈ vs, ∃ A n c, v = Value.slice A n c := by
 intro v hv
 obtain ⟨i, hi, rfl⟩ := List.mem_iff_getElem.1 hv
 have hls := hs.len
 rw [Nat.mul_one] at hls
 obtain ⟨A', c', e, _⟩ := h i (rs[i]'(by omega)) (List.getElem?_eq_getElem (by omega))
 rw [List.getElem?_eq_getElem hi] at e
 injection e with e
 exact ⟨_, _, _, e⟩
structure GrV (w : World) (A : Option Addr) (n c : Nat) (rs : List (List UInt8)) (vs : List Value) : Prop where
 sl : Sl w 1 A n c vs
 rows : ∀ (i : Nat) (r : List UInt8), rs[i]? = some r → ∃ A' c', vs[i]? = some (Value.slice A' r.length c') ∧ Sl w 1 A' r.length c' (cells r)
 len : rs.length = n
theorem GrV.gr {w : World} {A : Option Addr} {n c : Nat} {rs : List (List UInt8)} {vs : List Value} (h : GrV w A n c rs vs) : Gr w A n c rs := ⟨⟨vs, h.sl, h.rows⟩, h.len⟩
theorem GrV.later {w w' : World} {A : Option Addr} {n c : Nat} {rs : List (List UInt8)} {vs : List Value} (h : GrV w A n c rs vs) (hb : Below w.heap.size w w') : GrV w' A n c rs vs :=
 ⟨h.sl.below hb (Nat.le_refl _), fun i r hi => by
  obtain ⟨A', c', h1, h2⟩ := h.rows i r hi
  exact ⟨A', c', h1, h2.below hb (Nat.le_refl _)⟩, h.len⟩
structure GgV (w : World) (B : Nat) (A : Option Addr) (n c : Nat) (rs : List (List UInt8)) (vs : List Value) : Prop where
 own : Own w B 40 1 A n c vs
 rows : ∀ (i : Nat) (r : List UInt8), rs[i]? = some r → ∃ A' c', vs[i]? = some (Value.slice A' r.length c') ∧ Sl w 1 A' r.length c' (cells r) ∧ Oth A A' r.length
 len : rs.length = n
 blk : ∀ b o, A = some ⟨b, o, none⟩ → B ≤ b ∧ b < w.heap.size
theorem GgV.gg {w : World} {B : Nat} {A : Option Addr} {n c : Nat} {rs : List (List UInt8)} {vs : List Value} (h : GgV w B A n c rs vs) : Gg w B A n c rs := ⟨⟨vs, h.own, h.rows⟩, h.len, h.blk⟩
theorem GgV.grV {w : World} {B : Nat} {A : Option Addr} {n c : Nat} {rs : List (List UInt8)} {vs : List Value} (h : GgV w B A n c rs vs) : GrV w A n c rs vs :=
 ⟨h.own.sl, fun i r hi => by
  obtain ⟨A', c', h1, h2, _⟩ := h.rows i r hi
  exact ⟨A', c', h1, h2⟩, h.len⟩
theorem GgV.later {w w' : World} {B : Nat} {A : Option Addr} {n c : Nat} {rs : List (List UInt8)} {vs : List Value} (h : GgV w B A n c rs vs) (hb : Below w.heap.size w w') : GgV w' B A n c rs vs :=
 ⟨h.own.below hb, fun i r hi => by
  obtain ⟨A', c', h1, h2, h3⟩ := h.rows i r hi
  exact ⟨A', c', h1, h2.below hb (Nat.le_refl _), h3⟩, h.len, fun b o e => ⟨(h.blk b o e).1, Nat.lt_of_lt_of_le (h.blk b o e).2 hb.size⟩⟩
theorem GgV.made0 (w : World) (k : Nat) (hk : k ≤ maxLen) : GgV (w.alloc (.cells (madeCells #[.slice none 0 0] k) 40)) w.heap.size (some ⟨w.heap.size, 0, none⟩) 0 k [] [] := by
 refine ⟨⟨Sl.empty _ 1 _ k hk, .inr ⟨by simp, .inr ⟨w.heap.size, k, _, rfl, Nat.le_refl _, heap_alloc_new w _, Nat.zero_le _, hk, ?_, by simp⟩⟩⟩, fun i r h => by simp at h, rfl, fun b o e => ?_⟩
 ·rw [size_madeCells, Nat.mul_one]
 ·injection e with e
  injection e with e _
  subst e
  exact ⟨Nat.le_refl _, by simp⟩
theorem wpList_append_gV {w : World} {B n c : Nat} {A : Option Addr} {rs : List (List UInt8)} {vs : List Value} {ops : Array Oper} {rest : List Oper} {o : Oper} {a : Act} {Q : Exit → Act → World → Prop} (hgd : o.guard = none) (s x : Operand)
  (ho : o.op = .call { callee := .builtin .append, args := #[s, x], argTypes := #[173, 173] })
  (hv : a.eval s = .slice A n c) (h : GgV w B A n c rs vs) (hB : B ≤ w.heap.size)
  (A2 : Option Addr) (m c2 : Nat) (ys : List (List UInt8)) (vs2 : List Value) (hx : a.eval x = .slice A2 m c2) (hs : GrV w A2 m c2 ys vs2) (h40 : n + m ≤ 1048576)
  (hfar : ∀ (i : Nat) (r : List UInt8) (A' : Option Addr) (c' : Nat), ys[i]? = some r → vs2[i]? = some (Value.slice A' r.length c') → Oth A A' r.length)
  (hk : ∀ A' c' w', GgV w' B A' (n + m) c' (rs ++ ys) (vs ++ vs2) → Below B w w' → w.heap.size ≤ w'.heap.size → Fr (Blk A) w w' → wpList Tryz.prog ops Q rest (a.put o.dst (.slice A' (n + m) c')) w') : wpList Tryz.prog ops Q (o :: rest) a w := by
 obtain ⟨i0, hi, hz0, hz1, hz2⟩ := info_parts info_bs
 have hown := h.own
 have hrs := h.rows
 have hsl2 := hs.sl
 have hrs2 := hs.rows
 have hone := one_slice (rows_slice hsl2 hs.len hrs2)
 obtain ⟨A', c', w', hr, h2, hfr, hA', hown'⟩ := run_append_fr (P := Tryz.prog) 173 173 o.type i0 (.slice none 0 0) 24 Tryz.underlying173 hi hz0 hz1 hz2 rfl (by decide) hown hB h.blk (.slice A2 m c2) m vs2 (hsl2.src Tryz.underlying173 (by decide) hone) (by unfold maxLen; omega) (by omega)
 refine wpList_plain hgd fun _ hK => ?_
 unfold Oper.wp execOp
 simp only [ho, resolve, invoke, builtin, Sem.run_bind, Sem.run_pure, Result.andThen_ok, List.map_toArray, List.map_cons, List.map_nil, hv, hx, hr]
 refine hK _ _ (hk A' c' w' ⟨h2, fun i r hir => ?_, by rw [List.length_append, h.len, hs.len], hown'⟩ (hfr.below hB (fun k ⟨o, e⟩ => (h.blk k o e).1)) hfr.size hfr)
 have hvl := hown.sl.len
 rw [Nat.mul_one] at hvl
 have new : ∀ A'' c'', Sl w 1 A'' r.length c'' (cells r) → Oth A A'' r.length → Sl w' 1 A'' r.length c'' (cells r) ∧ Oth A' A'' r.length := by
  intro A'' c'' hsr hot
  refine ⟨hsr.oth hfr hot, fun b o o' hn e e' => ?_⟩
  rcases hA' with rfl | rfl
  ·exact hot b o o' hn e e'
  ·injection e' with e'
   injection e' with e' _
   have := hsr.lt (by decide) hn e
   omega
 rcases Nat.lt_or_ge i n with hlt | hge
 ·rw [List.getElem?_append_left (by rw [h.len]; exact hlt)] at hir
  obtain ⟨A'', c'', e1, e2, e3⟩ := hrs i r hir
  exact ⟨A'', c'', by rw [List.getElem?_append_left (by rw [hvl]; exact hlt)]; exact e1, new A'' c'' e2 e3⟩
 ·rw [List.getElem?_append_right (by rw [h.len]; exact hge), h.len] at hir
  obtain ⟨A'', c'', e1, e2⟩ := hrs2 (i - n) r hir
  exact ⟨A'', c'', by rw [List.getElem?_append_right (by rw [hvl]; exact hge), hvl]; exact e1, new A'' c'' e2 (hfar (i - n) r A'' c'' hir e1)⟩
structure Sep (w : World) (B H : Nat) (f : Nat → Option Value) (rs : List (List UInt8)) : Prop where
 row : ∀ (i : Nat) (r : List UInt8), rs[i]? = some r → 0 < r.length → ∃ g c, f i = some (Value.slice (some ⟨g, 0, none⟩) r.length c) ∧ g < H ∧ Mine w B 5 (some ⟨g, 0, none⟩) r.length (cells r)
 apart : ∀ (i j g n n' c c' : Nat) (r s : List UInt8), i < j → rs[i]? = some r → rs[j]? = some s → 0 < r.length → 0 < s.length → f i = some (Value.slice (some ⟨g, 0, none⟩) n c) → f j = some (Value.slice (some ⟨g, 0, none⟩) n' c') → False
section
variable {w w' : World} {B H : Nat} {f : Nat → Option Value} {rs : List (List UInt8)}
theorem Sep.nil (w : World) (B H : Nat) (f : Nat → Option Value) : Sep w B H f [] := ⟨fun i r h => by simp at h, fun i j g n n' c c' r s _ h => by simp at h⟩
theorem Sep.later (h : Sep w B H f rs) (hb : Below w.heap.size w w') : Sep w' B H f rs :=
 ⟨fun i r hi hr => by
  obtain ⟨g, c, h1, h2, h3⟩ := h.row i r hi hr
  exact ⟨g, c, h1, h2, h3.later hb⟩, h.apart⟩
theorem Sep.up {H' : Nat} (h : Sep w B H f rs) (hH : H ≤ H') : Sep w B H' f rs :=
 ⟨fun i r hi hr => by
  obtain ⟨g, c, h1, h2, h3⟩ := h.row i r hi hr
  exact ⟨g, c, h1, Nat.lt_of_lt_of_le h2 hH, h3⟩, h.apart⟩
theorem Sep.lower {B' : Nat} (h : Sep w B H f rs) (hB : B' ≤ B) : Sep w B' H f rs :=
 ⟨fun i r hi hr => by
  obtain ⟨g, c, h1, h2, h3⟩ := h.row i r hi hr
  exact ⟨g, c, h1, h2, h3.lower hB⟩, h.apart⟩
theorem Sep.frS {S : Nat → Prop} (h : Sep w B H f rs) (hf : Fr S w w') (hS : ∀ (i : Nat) (r : List UInt8) (g n c : Nat), rs[i]? = some r → 0 < r.length → f i = some (Value.slice (some ⟨g, 0, none⟩) n c) → ¬ S g) : Sep w' B H f rs :=
 ⟨fun i r hi hr => by
  obtain ⟨g, c, h1, h2, h3⟩ := h.row i r hi hr
  refine ⟨g, c, h1, h2, fun hn => ?_⟩
  obtain ⟨g', cur, e, hB, hg, hs, ht⟩ := h3 hn
  injection e with e
  injection e with e _
  subst e
  exact ⟨g, cur, rfl, hB, hf.row_some hg (hS i r g r.length c hi hr h1), hs, ht⟩, h.apart⟩
theorem Sep.one {r : List UInt8} {A : Option Addr} {c : Nat} (h : Mine w B 5 A r.length (cells r)) : Sep w B w.heap.size (fun _ => some (.slice A r.length c)) [r] :=
 ⟨fun i x hi hr => by
  rcases i with _ | i
  ·simp at hi
   subst hi
   have h0 := h
   obtain ⟨g, cur, e, hB, hg, _⟩ := h hr
   subst e
   exact ⟨g, c, rfl, block_lt hg, h0⟩
  ·simp at hi, fun i j g n n' c c' r' s hij hi hj => by
  rcases j with _ | j
  ·omega
  ·simp at hj⟩
theorem Sep.app {B0 H0 B2 H2 : Nat} {f2 f' : Nat → Option Value} {ps : List (List UInt8)} (h : Sep w B H f rs) (h2 : Sep w B2 H2 f2 ps) (hd : H ≤ B2 ∨ H2 ≤ B) (b1 : B0 ≤ B) (b2 : B0 ≤ B2) (k1 : H ≤ H0) (k2 : H2 ≤ H0)
  (e1 : ∀ i, i < rs.length → f' i = f i) (e2 : ∀ i, i < ps.length → f' (rs.length + i) = f2 i) : Sep w B0 H0 f' (rs ++ ps) := by
 have inL : ∀ {i : Nat} {r : List UInt8}, rs[i]? = some r → i < rs.length := fun {i r} hi => by
  rcases Nat.lt_or_ge i rs.length with h' | h'
  ·exact h'
  ·rw [List.getElem?_eq_none h'] at hi
   cases hi
 have inR : ∀ {i : Nat} {r : List UInt8}, ps[i]? = some r → i < ps.length := fun {i r} hi => by
  rcases Nat.lt_or_ge i ps.length with h' | h'
  ·exact h'
  ·rw [List.getElem?_eq_none h'] at hi
   cases hi
 refine ⟨fun i r hi hr => ?_, fun i j g n n' c c' r s hij hi hj hr hs hfi hfj => ?_⟩
 ·rcases Nat.lt_or_ge i rs.length with hl | hl
  ·rw [List.getElem?_append_left hl] at hi
   obtain ⟨g, c, q1, q2, q3⟩ := h.row i r hi hr
   exact ⟨g, c, (e1 i hl).trans q1, Nat.lt_of_lt_of_le q2 k1, q3.lower b1⟩
  ·rw [List.getElem?_append_right hl] at hi
   obtain ⟨g, c, q1, q2, q3⟩ := h2.row _ r hi hr
   have := e2 _ (inR hi)
   rw [show rs.length + (i - rs.length) = i from by omega] at this
   exact ⟨g, c, this.trans q1, Nat.lt_of_lt_of_le q2 k2, q3.lower b2⟩
 ·rcases Nat.lt_or_ge j rs.length with hl | hl
  ·rw [List.getElem?_append_left (by omega)] at hi
   rw [List.getElem?_append_left hl] at hj
   exact h.apart i j g n n' c c' r s hij hi hj hr hs ((e1 i (by omega)).symm.trans hfi) ((e1 j hl).symm.trans hfj)
  ·rw [List.getElem?_append_right hl] at hj
   have e3 := e2 _ (inR hj)
   rw [show rs.length + (j - rs.length) = j from by omega] at e3
   rw [e3] at hfj
   rcases Nat.lt_or_ge i rs.length with hl2 | hl2
   ·rw [List.getElem?_append_left hl2] at hi
    rw [e1 i hl2] at hfi
    obtain ⟨g1, c1, q1, q2, q3⟩ := h.row i r hi hr
    obtain ⟨g2, c2, p1, p2, p3⟩ := h2.row _ s hj hs
    rw [q1] at hfi; injection hfi with hfi; injection hfi with hfi; injection hfi with hfi; injection hfi with hfi
    rw [p1] at hfj; injection hfj with hfj; injection hfj with hfj; injection hfj with hfj; injection hfj with hfj
    obtain ⟨y1, _, z1, zB, _⟩ := q3 hr
    obtain ⟨y2, _, z2, zB2, _⟩ := p3 hs
    injection z1 with z1; injection z1 with z1
    injection z2 with z2; injection z2 with z2
    omega
   ·rw [List.getElem?_append_right hl2] at hi
    have e4 := e2 _ (inR hi)
    rw [show rs.length + (i - rs.length) = i from by omega] at e4
    rw [e4] at hfi
    exact h2.apart _ _ g n n' c c' r s (by omega) hi hj hr hs hfi hfj
theorem Sep.ge (h : Sep w B H f rs) {i g n c : Nat} {r : List UInt8} (hi : rs[i]? = some r) (hr : 0 < r.length) (hf : f i = some (Value.slice (some ⟨g, 0, none⟩) n c)) : B ≤ g ∧ g < H := by
 obtain ⟨g1, c1, q1, q2, q3⟩ := h.row i r hi hr
 obtain ⟨y1, _, z1, zB, _⟩ := q3 hr
 injection z1 with z1; injection z1 with z1
 rw [q1] at hf; injection hf with hf; injection hf with hf; injection hf with hf; injection hf with hf
 omega
end
structure Gm (w : World) (B : Nat) (A : Option Addr) (n c : Nat) (rs : List (List UInt8)) : Prop where
 ex : ∃ vs : List Value, GrV w A n c rs vs ∧ Sep w B w.heap.size (fun i => vs[i]?) rs ∧ ∀ (i : Nat) (r : List UInt8) (A' : Option Addr) (c' : Nat), rs[i]? = some r → vs[i]? = some (Value.slice A' r.length c') → Oth A A' r.length
section
variable {w w' : World} {B n c : Nat} {A : Option Addr} {rs : List (List UInt8)}
theorem Gm.gr (h : Gm w B A n c rs) : Gr w A n c rs := by
 obtain ⟨vs, h1, _⟩ := h.ex
 exact h1.gr
theorem Gm.later (h : Gm w B A n c rs) (hb : Below w.heap.size w w') : Gm w' B A n c rs := by
 obtain ⟨vs, h1, h2, h3⟩ := h.ex
 exact ⟨⟨vs, h1.later hb, (h2.later hb).up hb.size, h3⟩⟩
theorem Gm.lower {B' : Nat} (h : Gm w B A n c rs) (hB : B' ≤ B) : Gm w B' A n c rs := by
 obtain ⟨vs, h1, h2, h3⟩ := h.ex
 exact ⟨⟨vs, h1, h2.lower hB, h3⟩⟩
end
structure Fil (w : World) (g m : Nat) (cur : Array Value) (rs : List (List UInt8)) : Prop where
 row : w.heap[g]? = some (.cells cur 40 (0, 0))
 size : cur.size = m
 le : rs.length ≤ m
 rows : ∀ (i : Nat) (r : List UInt8), rs[i]? = some r → ∃ A c, cur[i]? = some (Value.slice A r.length c) ∧ Sl w 1 A r.length c (cells r) ∧ ∀ b o, 0 < r.length → A = some ⟨b, o, none⟩ → b ≠ g
section
variable {w w' : World} {g m : Nat} {cur : Array Value} {rs : List (List UInt8)}
theorem Fil.made (w : World) (k : Nat) : Fil (w.alloc (.cells (madeCells #[.slice none 0 0] k) 40)) w.heap.size k (madeCells #[.slice none 0 0] k) [] :=
 ⟨heap_alloc_new w _, by rw [size_madeCells], Nat.zero_le _, fun i r h => by simp at h⟩
theorem Fil.later (h : Fil w g m cur rs) (hb : Below w.heap.size w w') : Fil w' g m cur rs :=
 ⟨(hb.block _ (block_lt h.row)).trans h.row, h.size, h.le, fun i r hi => by
  obtain ⟨A, c, h1, h2, h3⟩ := h.rows i r hi
  exact ⟨A, c, h1, h2.below hb (Nat.le_refl _), h3⟩⟩
theorem Fil.free (h : Fil w g m cur rs) (i : Nat) : w.frozen? ⟨g, i, none⟩ = false := frozen_of_row _ _ _ _ _ h.row
theorem Fil.has (h : Fil w g m cur rs) {i : Nat} (hi : i < m) : ∃ v, w.cell? ⟨g, i, none⟩ = some v := by
 rw [cell_of_row _ _ _ _ _ _ h.row]
 exact ⟨_, Array.getElem?_eq_getElem (by rw [h.size]; exact hi)⟩
theorem Fil.next (h : Fil w g m cur rs) (hf : Fr (fun k => k = g) w w') {k : Nat} (hk : rs.length = k) (hkm : k < m) {A : Option Addr} {c : Nat} {r : List UInt8} (hg : w'.heap[g]? = some (.cells (cur.setIfInBounds k (.slice A r.length c)) 40 (0, 0))) (hs : Sl w' 1 A r.length c (cells r)) (hA : ∀ b o, 0 < r.length → A = some ⟨b, o, none⟩ → b ≠ g) :
  Fil w' g m (cur.setIfInBounds k (.slice A r.length c)) (rs ++ [r]) := by
 refine ⟨hg, by rw [Array.size_setIfInBounds]; exact h.size, by rw [List.length_append, List.length_singleton]; omega, fun i x hi => ?_⟩
 rcases Nat.lt_or_ge i k with hlt | hge
 ·rw [List.getElem?_append_left (by omega)] at hi
  obtain ⟨A', c', h1, h2, h3⟩ := h.rows i x hi
  exact ⟨A', c', by rw [Array.getElem?_setIfInBounds, if_neg (by omega)]; exact h1, h2.fr hf (fun b o hn e hb => h3 b o hn e hb), h3⟩
 ·rw [List.getElem?_append_right (by omega), hk] at hi
  obtain rfl : i = k := by
   rcases Nat.lt_or_ge (i - k) 1 with h' | h'
   ·omega
   ·rw [List.getElem?_eq_none (by simpa using h')] at hi
    cases hi
  rw [Nat.sub_self] at hi
  injection hi with hi
  subst hi
  exact ⟨A, c, by rw [Array.getElem?_setIfInBounds, if_pos rfl, if_pos (by rw [h.size]; exact hkm)], hs, hA⟩
theorem Fil.grV (h : Fil w g m cur rs) (hl : rs.length = m) (hm : m ≤ maxLen) : GrV w (some ⟨g, 0, none⟩) m m rs cur.toList := by
 refine ⟨⟨by rw [Array.length_toList, h.size, Nat.mul_one], Nat.le_refl _, hm, fun j u hu => ⟨g, 0, rfl, ?_⟩⟩, fun i r hi => ?_, hl⟩
 ·rw [cell_of_row _ _ _ _ _ _ h.row, Nat.zero_add]
  simpa using hu
 ·obtain ⟨A, c, h1, h2, _⟩ := h.rows i r hi
  exact ⟨A, c, by simpa using h1, h2⟩
theorem Fil.gr (h : Fil w g m cur rs) (hl : rs.length = m) (hm : m ≤ maxLen) : Gr w (some ⟨g, 0, none⟩) m m rs := by
 refine ⟨⟨cur.toList, ⟨by rw [Array.length_toList, h.size, Nat.mul_one], Nat.le_refl _, hm, fun j u hu => ⟨g, 0, rfl, ?_⟩⟩, fun i r hi => ?_⟩, hl⟩
 ·rw [cell_of_row _ _ _ _ _ _ h.row, Nat.zero_add]
  simpa using hu
 ·obtain ⟨A, c, h1, h2, _⟩ := h.rows i r hi
  exact ⟨A, c, by simpa using h1, h2⟩
end
theorem Fil.put {w w' : World} {g m : Nat} {cur : Array Value} {rs : List (List UInt8)} (h : Fil w g m cur rs) (hf : Fr (fun k => k = g) w w') {j : Nat} (hj : j < m) {A : Option Addr} {c : Nat} {r : List UInt8} (hg : w'.heap[g]? = some (.cells (cur.setIfInBounds j (.slice A r.length c)) 40 (0, 0))) (hs : Sl w' 1 A r.length c (cells r)) (hA : ∀ b o, 0 < r.length → A = some ⟨b, o, none⟩ → b ≠ g) :
  Fil w' g m (cur.setIfInBounds j (.slice A r.length c)) (rs.set j r) := by
 refine ⟨hg, by rw [Array.size_setIfInBounds]; exact h.size, by rw [List.length_set]; exact h.le, fun i x hi => ?_⟩
 rw [List.getElem?_set] at hi
 split at hi
 ·rename_i hij
  subst hij
  split at hi
  ·injection hi with hi
   subst hi
   exact ⟨A, c, by rw [Array.getElem?_setIfInBounds, if_pos rfl, if_pos (by rw [h.size]; exact hj)], hs, hA⟩
  ·cases hi
 ·rename_i hij
  obtain ⟨A', c', h1, h2, h3⟩ := h.rows i x hi
  exact ⟨A', c', by rw [Array.getElem?_setIfInBounds, if_neg hij]; exact h1, h2.fr hf (fun b o hn e hb => h3 b o hn e hb), h3⟩
theorem makes0_eq (z : Int) (k : Nat) (hz : z = (k : Int)) (hk : k ≤ 1048576) (w : World) :
  (Instr.makeSlice 173 (.int .i64 0) (.int .i64 z)).run Tryz.prog w = .ok (.slice (some ⟨w.heap.size, 0, none⟩) 0 k) (w.alloc (.cells (madeCells #[.slice none 0 0] k) 40)) := by
 obtain ⟨i0, hi, hz0, hz1, hz2⟩ := info_parts info_bs
 subst hz
 have h := run_make (P := Tryz.prog) w 173 40 i0 (.slice none 0 0) Tryz.underlying173 hi hz0 .i64 .i64 (0 : Int) (k : Int) (by omega) (by omega) (by rw [hz2]; omega) (by omega)
 rw [hz1, Nat.mul_one, Int.toNat_natCast] at h
 exact h
end
section
open Go.RowKit Go.Proofs
def thereL (rs : List (List UInt8)) (j : Nat) : List Nat := (List.range j).filter fun i => decide (0 < (rs.getD i []).length)
theorem thereL_next (rs : List (List UInt8)) (j : Nat) : thereL rs (j + 1) = if 0 < (rs.getD j []).length then thereL rs j ++ [j] else thereL rs j := by
 rw [thereL, thereL, List.range_succ, List.filter_append]
 by_cases h : 0 < (rs.getD j []).length
 ·rw [if_pos h, List.filter_cons_of_pos (by simpa using h)]
  rfl
 ·rw [if_neg h, List.filter_cons_of_neg (by simpa using h)]
  simp
theorem thereL_le (rs : List (List UInt8)) (j : Nat) : (thereL rs j).length ≤ j := by
 have := List.length_filter_le (fun i => decide (0 < (rs.getD i []).length)) (List.range j)
 rwa [List.length_range] at this
theorem there6_any (A : Option Addr) (n c : Nat) (rs : List (List UInt8)) (w : World) (h : Gr w A n c rs) (hn : n ≤ 1048576) :
  Calls Tryz.prog 149 #[.slice A n c] w fun e w' => (∃ A' q c', e = .returned (.slice A' q c') ∧ Sl w' 1 A' q c' (ncells (thereL rs n))) ∧ Below w.heap.size w w' := by
 have H := qH h; clear h
 go_enter Tryz.func149, Tryz.ntmps149
 go_wp2_with fail
 go_loopw [3, 4] (fun v i wr => ∃ (j q : Nat) (A' : Option Addr) (c' : Nat), j ≤ n ∧ q ≤ j ∧ i = .int .i64 (j : Int) ∧ v = .slice A' q c' ∧ Own wr w.heap.size 3 1 A' q c' (ncells (thereL rs j)) ∧ Below w.heap.size w wr) (fun _ i _ => n - (intOf i).toNat)
 case atStart => exact ⟨0, 0, none, 0, by omega, by omega, rfl, rfl, (Own.full (Sl.nil w 1 0 (by decide)) : Own w w.heap.size 3 1 none 0 0 []), Below.refl _ _⟩
 case round =>
  obtain ⟨j, q, A', c', hj, hq, rfl, rfl, hO, hb⟩ := hrel
  have HO := qH hO; clear hO
  have Hb := qH hb
  have hszr := hb.size
  clear hb
  by_cases hlt : j < n
  ·obtain ⟨b, o, rfl, hc⟩ := (H.out.later Hb.out).at_ (by omega)
   obtain ⟨A1, c1, hc1, hs1⟩ := hc j _ (H.out.get hlt)
   have hnext := thereL_next rs j
   obtain ⟨L1, hL1⟩ : ∃ L, L = (rs.getD j []).length := ⟨_, rfl⟩
   rw [← hL1] at hc1 hs1 hnext
   have hm1 := hs1.lim
   unfold maxLen at hm1
   clear hc hs1 hL1
   by_cases hpos : 0 < L1
   ·rw [if_pos hpos] at hnext
    have Hnext := qH hnext; clear hnext
    have hpi : (0 : Int) < (L1 : Int) := by omega
    have hwin : w.heap.size ≤ (wr.alloc (.cells #[.int .i64 (j : Int)] 3)).heap.size := by simp; omega
    go_wp2_with (at_builtin; refine wpList_append_i (B := w.heap.size) rfl (.tmp 17) (.tmp 19) rfl rfl (HO.out.alloc _) hwin (some ⟨wr.heap.size, 0, none⟩) 1 1 [j] rfl (Sl.oneN _ _ _ _ rfl) ?pb ?pc)
    case pb => omega
    intro A2 c2 w2 ho2 hb2 _
    rw [← ncells_append, ← Hnext.out] at ho2
    have Ho2 := qH ho2; clear ho2
    have Hb2 := qH ((Hb.out.alloc hszr _).trans hb2); clear hb2
    go_wp2_with fail
    go_roundw
    case rel => exact ⟨j + 1, q + 1, A2, c2, by omega, by omega, by go_num, rfl, Ho2.out, Hb2.out⟩
    case measure => simp [intOf]; omega
   ·rw [if_neg hpos] at hnext
    have Hnext := qH hnext; clear hnext
    have hpi : ¬ ((0 : Int) < (L1 : Int)) := by omega
    go_wp2_with fail
    go_roundw
    case rel => exact ⟨j + 1, q, A', c', by omega, by omega, by go_num, rfl, by rw [Hnext.out]; exact HO.out, Hb.out⟩
    case measure => simp [intOf]; omega
  ·obtain rfl : j = n := by omega
   go_wp2_with fail
   go_ret
   exact ⟨⟨A', q, c', rfl, HO.out.sl⟩, Hb.out⟩
end
section
open Go.RowKit
theorem gd_11 : gd 1 1 = 1 := gm_ginv 1 (by decide)
theorem there_any (F T : Nat) (w : World) (h : Fld w F T) :
  Calls Tryz.prog 82 #[.pointer (some ⟨F, 0, none⟩)] w (OnFld F T w (.bool true)) := by
 have hh := div_any F T 1 1 w h
 rw [if_neg (by decide), gd_11] at hh
 clear h
 go_enter Tryz.func82, Tryz.ntmps82
 go_wp2_with fail
 refine hh.mono ?_; clear hh; rintro e w1 ⟨rfl, h1, hf1⟩
 go_wp2_with fail
 go_ret
 exact ⟨rfl, h1, hf1⟩
theorem there1_any (F T : Nat) (w : World) (h : Fld1 w F T) :
  Calls Tryz.prog 82 #[.pointer (some ⟨F, 0, none⟩)] w fun e w' => e = .returned (.bool true) ∧ ∃ k, w' = w.drewN k := by
 have hh := div1_any F T 1 1 (by decide) w h
 rw [gd_11] at hh
 clear h
 go_enter Tryz.func82, Tryz.ntmps82
 go_wp2_with fail
 refine hh.mono ?_; clear hh; rintro e w1 ⟨rfl, k, rfl⟩
 go_wp2_with fail
 go_ret
 exact ⟨rfl, k, rfl⟩
def mayB (k m : Int) : Bool := decide (1 ≤ k ∧ 1 ≤ m ∧ k + m ≤ 255)
theorem mayB_t {k m : Int} (h : 1 ≤ k ∧ 1 ≤ m ∧ k + m ≤ 255) : mayB k m = true := decide_eq_true h
theorem mayB_f {k m : Int} (h : ¬ (1 ≤ k ∧ 1 ≤ m ∧ k + m ≤ 255)) : mayB k m = false := decide_eq_false h
theorem gright_any (k m : Int) (hk : -9223372036854775808 ≤ k ∧ k < 9223372036854775808) (hm : -9223372036854775808 ≤ m ∧ m < 9223372036854775808) (w : World) :
  Calls Tryz.prog 83 #[.agg #[.int .i64 k, .int .i64 m]] w fun e w' => e = .returned (.bool (mayB k m)) ∧ Below w.heap.size w w' := by
 obtain ⟨hk1, hk2⟩ := hk
 obtain ⟨hm1, hm2⟩ := hm
 by_cases h1 : 1 ≤ k
 ·by_cases h2 : 1 ≤ m
  ·by_cases h3 : m ≤ 255 - k
   ·rw [mayB_t (by omega)]
    go_enter Tryz.func83, Tryz.ntmps83
    go_wp2_with fail
    go_ret
    exact ⟨rfl, (Below.refl _ _).alloc (Nat.le_refl _) _⟩
   ·rw [mayB_f (by omega)]
    go_enter Tryz.func83, Tryz.ntmps83
    go_wp2_with fail
    go_ret
    exact ⟨rfl, (Below.refl _ _).alloc (Nat.le_refl _) _⟩
  ·rw [mayB_f (by omega)]
   go_enter Tryz.func83, Tryz.ntmps83
   go_wp2_with fail
   go_ret
   exact ⟨rfl, (Below.refl _ _).alloc (Nat.le_refl _) _⟩
 ·rw [mayB_f (by omega)]
  go_enter Tryz.func83, Tryz.ntmps83
  go_wp2_with fail
  go_ret
  exact ⟨rfl, (Below.refl _ _).alloc (Nat.le_refl _) _⟩
theorem gn_any (k m : Nat) (h : k + m ≤ 255) (w : World) :
  Calls Tryz.prog 126 #[.agg #[.int .i64 (k : Int), .int .i64 (m : Int)]] w fun e w' => e = .returned (.int .i64 ((k + m : Nat) : Int)) ∧ Below w.heap.size w w' := by
 go_enter Tryz.func126, Tryz.ntmps126
 go_wp2_with fail
 go_ret
 exact ⟨by simp, (Below.refl _ _).alloc (Nat.le_refl _) _⟩
theorem ghas_any (k m : Nat) (i : Int) (h : k + m ≤ 255) (w : World) :
  Calls Tryz.prog 203 #[.agg #[.int .i64 (k : Int), .int .i64 (m : Int)], .int .i64 i] w fun e w' => e = .returned (.bool (withinB i ((k + m : Nat) : Int))) ∧ Below w.heap.size w w' := by
 by_cases h1 : 0 ≤ i
 ·by_cases h2 : i < ((k + m : Nat) : Int)
  ·rw [withinB_t ⟨h1, h2⟩]
   go_enter Tryz.func203, Tryz.ntmps203
   go_wp2_with fail
   refine (gn_any k m h _).mono ?_; rintro e w1 ⟨rfl, hb⟩
   go_wp2_with fail
   go_ret
   exact ⟨congrArg (fun b => Ending.returned (.bool b)) (show decide (i < (k : Int) + (m : Int)) = true by simp; omega), ((Below.refl _ _).alloc (Nat.le_refl _) _).trans (hb.mono (by simp))⟩
  ·rw [withinB_f (by omega)]
   go_enter Tryz.func203, Tryz.ntmps203
   go_wp2_with fail
   refine (gn_any k m h _).mono ?_; rintro e w1 ⟨rfl, hb⟩
   go_wp2_with fail
   go_ret
   exact ⟨congrArg (fun b => Ending.returned (.bool b)) (show decide (i < (k : Int) + (m : Int)) = false by simp; omega), ((Below.refl _ _).alloc (Nat.le_refl _) _).trans (hb.mono (by simp))⟩
 ·rw [withinB_f (by omega)]
  go_enter Tryz.func203, Tryz.ntmps203
  go_wp2_with fail
  go_ret
  exact ⟨rfl, (Below.refl _ _).alloc (Nat.le_refl _) _⟩
structure Cod (w : World) (C k m F T : Nat) : Prop where
 row : w.heap[C]? = some (.cells #[.int .i64 (k : Int), .int .i64 (m : Int), .pointer (some ⟨F, 0, none⟩)] 141 (0, 0))
 fld : Fld1 w F T
 k1 : 1 ≤ k
 m1 : 1 ≤ m
 n255 : k + m ≤ 255
section
variable {w w' : World} {C k m F T : Nat}
theorem Cod.later (h : Cod w C k m F T) (hb : Below w.heap.size w w') : Cod w' C k m F T := ⟨(hb.block _ (block_lt h.row)).trans h.row, h.fld.later hb, h.k1, h.m1, h.n255⟩
theorem Cod.c0 (h : Cod w C k m F T) : w.cell? ⟨C, 0, none⟩ = some (.int .i64 (k : Int)) := by rw [cell_of_row _ _ _ _ _ _ h.row]; rfl
theorem Cod.c1 (h : Cod w C k m F T) : w.cell? ⟨C, 1, none⟩ = some (.int .i64 (m : Int)) := by rw [cell_of_row _ _ _ _ _ _ h.row]; rfl
theorem Cod.c2 (h : Cod w C k m F T) : w.cell? ⟨C, 2, none⟩ = some (.pointer (some ⟨F, 0, none⟩)) := by rw [cell_of_row _ _ _ _ _ _ h.row]; rfl
end
theorem cmade_any (C k m F T : Nat) (w : World) (h : Cod w C k m F T) :
  Calls Tryz.prog 159 #[.pointer (some ⟨C, 0, none⟩)] w fun e w' => e = .returned (.bool true) ∧ ∃ j, w' = w.drewN j := by
 have c2 := h.c2
 go_enter Tryz.func159, Tryz.ntmps159
 go_wp2_with fail
 refine (there1_any F T _ h.fld).mono ?_; rintro e w1 ⟨rfl, j, rfl⟩
 go_wp2_with fail
 go_ret
 exact ⟨rfl, j, rfl⟩
theorem ck_any (C k m F T : Nat) (w : World) (h : Cod w C k m F T) :
  Calls Tryz.prog 141 #[.pointer (some ⟨C, 0, none⟩)] w fun e w' => e = .returned (.int .i64 (k : Int)) ∧ w' = w := by
 have c0 := h.c0
 go_enter Tryz.func141, Tryz.ntmps141
 go_wp2_with fail
 go_ret
 exact ⟨rfl, rfl⟩
theorem cn_any (C k m F T : Nat) (w : World) (h : Cod w C k m F T) :
  Calls Tryz.prog 84 #[.pointer (some ⟨C, 0, none⟩)] w fun e w' => e = .returned (.int .i64 ((k + m : Nat) : Int)) ∧ Below w.heap.size w w' := by
 have c0 := h.c0
 have c1 := h.c1
 have h3 := h.n255
 have h0 := h.row
 have H0 := qH h0; clear h0
 go_enter Tryz.func84, Tryz.ntmps84
 go_wp2_with fail
 refine (gn_any k m h3 _).mono ?_; rintro e w1 ⟨rfl, hb⟩
 go_wp2_with fail
 go_ret
 exact ⟨rfl, hb⟩
theorem cf_any (C k m F T : Nat) (w : World) (h : Cod w C k m F T) :
  Calls Tryz.prog 157 #[.pointer (some ⟨C, 0, none⟩)] w fun e w' => e = .returned (.pointer (some ⟨F, 0, none⟩)) ∧ w' = w := by
 have c2 := h.c2
 go_enter Tryz.func157, Tryz.ntmps157
 go_wp2_with fail
 go_ret
 exact ⟨rfl, rfl⟩
def RetNewO (k m : Int) (F T : Nat) (w : World) (e : Ending) (w' : World) : Prop :=
 (mayB k m = false ∧ e = .returned (.pointer none) ∨ ∃ (K M C : Nat), k = (K : Int) ∧ m = (M : Int) ∧ e = .returned (.pointer (some ⟨C, 0, none⟩)) ∧ Cod w' C K M F T ∧ w.heap.size ≤ C) ∧ Fld1 w' F T ∧ Fr (Ft T) w w'
theorem cnew_own (F T : Nat) (k m : Int) (hk : -9223372036854775808 ≤ k ∧ k < 9223372036854775808) (hm : -9223372036854775808 ≤ m ∧ m < 9223372036854775808) (w : World) (h : Fld w F T) :
  Calls Tryz.prog 36 #[.pointer (some ⟨F, 0, none⟩), .int .i64 k, .int .i64 m] w (RetNewO k m F T w) := by
 have hb0 : Below w.heap.size w (w.alloc (.cells #[.int .i64 k, .int .i64 m] 138)) := (Below.refl _ _).alloc (Nat.le_refl _) _
 have hh := there_any F T _ (h.later hb0)
 have hT := h.ltT
 have hnew := heap_alloc_new w (.cells #[.int .i64 k, .int .i64 m] 138)
 have Hb0 := qH hb0; clear hb0 h
 by_cases hmay : 1 ≤ k ∧ 1 ≤ m ∧ k + m ≤ 255
 ·have hg := fun u => gright_any k m hk hm u
  rw [mayB_t hmay] at hg
  obtain ⟨K, rfl⟩ : ∃ K : Nat, k = (K : Int) := ⟨k.toNat, by omega⟩
  obtain ⟨M, rfl⟩ : ∃ M : Nat, m = (M : Int) := ⟨m.toNat, by omega⟩
  have Hmay := qH hmay; clear hmay
  have Hnew := qH hnew; clear hnew
  go_enter Tryz.func36, Tryz.ntmps36
  go_wp2_with fail
  refine hh.mono ?_; clear hh; rintro e w1 ⟨rfl, h1, hf1⟩
  have hrow := hf1.row_some Hnew.out (by show ¬ _ = T; omega)
  have a0 : w1.cell? ⟨w.heap.size, 0, none⟩ = some (.int .i64 (K : Int)) := by rw [cell_of_row _ _ _ _ _ _ hrow]; rfl
  have a1 : w1.cell? ⟨w.heap.size, 1, none⟩ = some (.int .i64 (M : Int)) := by rw [cell_of_row _ _ _ _ _ _ hrow]; rfl
  have H1 := qH h1; clear h1
  have Hf1 := qH ((Fr.of_below Hb0.out : Fr (Ft T) _ _).trans hf1); clear hf1
  have Hrow := qH hrow; clear hrow
  go_wp2_with fail
  refine (hg _).mono ?_; clear hg; rintro e w2 ⟨rfl, hb2⟩
  have hrow2 := (hb2.block _ (block_lt Hrow.out)).trans Hrow.out
  have b0 : w2.cell? ⟨w.heap.size, 0, none⟩ = some (.int .i64 (K : Int)) := by rw [cell_of_row _ _ _ _ _ _ hrow2]; rfl
  have b1 : w2.cell? ⟨w.heap.size, 1, none⟩ = some (.int .i64 (M : Int)) := by rw [cell_of_row _ _ _ _ _ _ hrow2]; rfl
  have Hb2 := qH hb2; clear hb2 a0 a1 hrow2
  go_wp2_with fail
  go_ret
  have hb3 : Below w2.heap.size w2 (w2.alloc (.cells #[.int .i64 (K : Int), .int .i64 (M : Int), .pointer (some ⟨F, 0, none⟩)] 141)) := (Below.refl _ _).alloc (Nat.le_refl _) _
  refine ⟨.inr ⟨K, M, w2.heap.size, rfl, rfl, rfl, ⟨heap_alloc_new w2 _, (H1.out.later Hb2.out).later hb3, ?_, ?_, ?_⟩, (Hf1.out.trans (Fr.of_below Hb2.out)).size⟩, (H1.out.later Hb2.out).later hb3, (Hf1.out.trans (Fr.of_below Hb2.out)).trans (Fr.of_below hb3)⟩
  all_goals (have := Hmay.out; omega)
 ·have hg := fun u => gright_any k m hk hm u
  have hf := mayB_f hmay
  rw [hf] at hg
  have Hf := qH hf; clear hf
  have Hnew := qH hnew; clear hnew hmay
  go_enter Tryz.func36, Tryz.ntmps36
  go_wp2_with fail
  refine hh.mono ?_; clear hh; rintro e w1 ⟨rfl, h1, hf1⟩
  have hrow := hf1.row_some Hnew.out (by show ¬ _ = T; omega)
  have a0 : w1.cell? ⟨w.heap.size, 0, none⟩ = some (.int .i64 k) := by rw [cell_of_row _ _ _ _ _ _ hrow]; rfl
  have a1 : w1.cell? ⟨w.heap.size, 1, none⟩ = some (.int .i64 m) := by rw [cell_of_row _ _ _ _ _ _ hrow]; rfl
  have H1 := qH h1; clear h1
  have Hf1 := qH ((Fr.of_below Hb0.out : Fr (Ft T) _ _).trans hf1); clear hf1 hrow
  go_wp2_with fail
  refine (hg _).mono ?_; clear hg; rintro e w2 ⟨rfl, hb2⟩
  have Hb2 := qH hb2; clear hb2 a0 a1
  go_wp2_with fail
  go_ret
  exact ⟨.inl ⟨Hf.out, rfl⟩, H1.out.later Hb2.out, Hf1.out.trans (Fr.of_below Hb2.out)⟩
theorem Fr.madeAll {F T : Nat} {w w' : World} (h : Fld1 w F T) (h' : Fld1 w' F T) (hf : Fr (Ft T) w w') : Below w.heap.size w w' :=
 ⟨hf.os, hf.tape, hf.output, hf.size, fun k hk => by
  by_cases e : k = T
  ·subst e
   have a : w.heap[k]? = _ := h.tabs
   have b : w'.heap[k]? = _ := h'.tabs
   rw [a, b]
  ·exact hf.block k hk e⟩
def upto (n : Nat) : List UInt8 := (List.range n).map UInt8.ofNat
theorem upto_length (n : Nat) : (upto n).length = n := by simp [upto]
theorem upto_get (n i : Nat) (h : i < n) : (upto n)[i]? = some (UInt8.ofNat i) := by simp [upto, h]
def uptoN (n k : Nat) : List UInt8 := (List.range n).map fun i => if i < k then UInt8.ofNat i else 0
theorem uptoN_length (n k : Nat) : (uptoN n k).length = n := by simp [uptoN]
theorem uptoN_zero (n : Nat) : uptoN n 0 = List.replicate n 0 := by
 apply List.ext_getElem
 ·simp [uptoN]
 ·intro i h1 h2
  simp [uptoN]
theorem uptoN_all (n : Nat) : uptoN n n = upto n := by
 apply List.ext_getElem
 ·simp [uptoN, upto]
 ·intro i h1 h2
  rw [uptoN_length] at h1
  simp [uptoN, upto, h1]
theorem uptoN_at (n k : Nat) (h : k < n) : (uptoN n k)[k]? = some 0 := by simp [uptoN, h]
theorem uptoN_set (n k : Nat) (h : k < n) : (uptoN n k).set k (UInt8.ofNat k) = uptoN n (k + 1) := by
 apply List.ext_getElem
 ·simp [uptoN]
 ·intro i h1 h2
  rw [List.getElem_set]
  by_cases he : k = i
  ·subst he
   simp [uptoN]
  ·rw [if_neg he]
   have h3 : (i < k + 1) = (i < k) := by apply propext; omega
   simp only [uptoN, List.getElem_map, List.getElem_range, h3]
theorem below_any (n : Nat) (hn : n ≤ 255) (w : World) :
  Calls Tryz.prog 205 #[.int .i64 (n : Int)] w (RetMine w.heap.size w (upto n)) := by
 have hmk := make_eq (n : Int) n rfl (by omega)
 go_enter Tryz.func205, Tryz.ntmps205
 go_wp2_with fail
 go_loopw [9] (fun i wr => ∃ k : Nat, k ≤ n ∧ i = .int .i64 (k : Int) ∧ Mine wr w.heap.size 5 (some ⟨w.heap.size, 0, none⟩) n (cells (uptoN n k)) ∧ Below w.heap.size w wr) (fun i _ => n - (intOf i).toNat)
 case atStart => exact ⟨0, by omega, rfl, by rw [uptoN_zero]; exact Mine.noughts w n, (Below.refl _ _).alloc (Nat.le_refl _) _⟩
 case round =>
  obtain ⟨k, hk, rfl, hm, hb⟩ := hrel
  by_cases hlt : k < n
  ·obtain ⟨g, hg, hB, hc, hz⟩ := hm.at_ hlt (uptoN_at n k hlt)
   injection hg with hg
   injection hg with hg _
   subst hg
   have hset := hm.set hlt (UInt8.ofNat k)
   rw [uptoN_set n k hlt, UInt8.toNat_ofNat', show k % 2 ^ 8 = k from by omega] at hset
   have Hset := qH hset; clear hset
   have Hm := qH hm; clear hm
   have hwr : wrap64 (k : Int) = (k : Int) := by unfold wrap64; omega
   go_wp2_with fail
   go_roundw
   case rel => exact ⟨k + 1, by omega, by go_num, Hset.out, hb.setCell (Nat.le_refl _) _⟩
   case measure => simp [intOf]; omega
  ·obtain rfl : k = n := by omega
   have Hm := qH hm; clear hm
   go_wp2_with fail
   go_ret
   have := Hm.out
   rw [uptoN_all] at this
   exact ⟨_, _, _, rfl, this.sl (upto_length _) (Nat.le_refl _) (by unfold maxLen; omega), hb, this⟩
end
section
open Go.RowKit
theorem fold1_any (F T : Nat) (c : UInt8) (A : Option Addr) (m cq : Nat) (r : List UInt8) (A2 : Option Addr) (n cp : Nat) (l : List UInt8) (w : World) (h : Fld1 w F T) (hr : Sl w 1 A m cq (cells r)) (hl : Sl w 1 A2 n cp (cells l)) (hn30 : n ≤ 1073741824) :
  Calls Tryz.prog 182 #[.pointer (some ⟨F, 0, none⟩), .int .u8 (c.toNat : Int), .slice A m cq, .slice A2 n cp] w (RetMine w.heap.size w (fld c r l)) := by
 have hll := hl.len
 rw [cells_length, Nat.mul_one] at hll
 have hmk := make_eq (n : Int) n rfl hn30
 have hlt := fun b o hn hA => hr.lt (b := b) (o := o) (by decide) hn hA
 have hT := h.fld.ltT
 have Hr := qH hr; clear hr
 have Hl := qH hl; clear hl
 have Hlt := qH hlt; clear hlt
 go_enter Tryz.func182, Tryz.ntmps182
 go_wp2_with fail
 refine (made1_any F T _ h).mono ?_; rintro e w1 ⟨rfl, k, hw1⟩
 have hb1 : Below w.heap.size w w1 := by rw [hw1]; exact below_drewN (Below.refl _ _) k
 have H1 := qH (h.later hb1)
 have hsz : w1.heap.size = w.heap.size := by rw [hw1]; rfl
 have Hsz := qH hsz
 clear h hw1
 have hs1 := hb1.size
 have Hq := qH (Hr.out.below hb1 (Nat.le_refl _))
 have Hq2 := qH (Hl.out.below hb1 (Nat.le_refl _))
 have Hb1 := qH hb1; clear hb1 hsz
 have hb2 : Below w1.heap.size w1 (w1.alloc (.cells (madeCells #[.int .u8 0] n) 5)) := (Below.refl _ _).alloc (Nat.le_refl _) _
 obtain ⟨w2, hcp, hm2, hf2⟩ := run_copy_all (cd := n) (Mine.noughts w1 n) (Hq2.out.below hb2 (Nat.le_refl _)) 3
 have hb3 : Below w1.heap.size w1 w2 := hb2.trans (hf2.below hb2.size (by rintro k rfl; exact Nat.le_refl _))
 have Hm2 := qH hm2; clear hm2
 clear hf2 hb2
 go_wp2_with fail
 clear hcp
 refine (add_any T w1.heap.size n n l A m cq r c _ (H1.out.later hb3).tabs w1.heap.size hb3.size hll Hq2.out.lim Hm2.out (by omega) (Hq.out.below hb3 (Nat.le_refl _)) ?_).mono ?_
 ·intro b o hn hA
  have := Hlt.out b o hn hA
  omega
 rintro e w3 ⟨rfl, hm3, hb4⟩
 have hb := hb3.trans hb4
 go_wp2_with fail
 go_ret
 exact ⟨_, _, _, rfl, hm3.sl (by rw [fld_length, hll]) (Nat.le_refl _) Hq2.out.lim, Hb1.out.trans (hb.mono hs1), hm3.lower hs1⟩
def levelB (rs : List (List UInt8)) : Bool := decide (∀ j, j < rs.length → (rs.getD j []).length = (rs.getD 0 []).length)
def evenB (rs : List (List UInt8)) (k : Int) : Bool := decide ((rs.length : Int) = k) && levelB rs
theorem level_any (A : Option Addr) (n c : Nat) (rs : List (List UInt8)) (w : World) (h : Gr w A n c rs) :
  Calls Tryz.prog 197 #[.slice A n c] w fun e w' => e = .returned (.bool (levelB rs)) ∧ w' = w := by
 have hlim := h.lim
 have hlen := h.len
 unfold maxLen at hlim
 have H := qH h; clear h
 have Hlen := qH hlen; clear hlen
 go_enter Tryz.func197, Tryz.ntmps197
 go_wp2_with fail
 go_loopw [7] (fun i wr => ∃ k : Nat, k ≤ n ∧ i = .int .i64 (k : Int) ∧ (∀ j, j < k → (rs.getD j []).length = (rs.getD 0 []).length) ∧ wr = w) (fun i _ => n - (intOf i).toNat)
 case atStart => exact ⟨0, by omega, rfl, fun j hj => absurd hj (by omega), rfl⟩
 case round =>
  obtain ⟨k, hk, rfl, hall, rfl⟩ := hrel
  have Hall := qH hall; clear hall
  by_cases hlt : k < n
  ·obtain ⟨b, o, rfl, hc⟩ := H.out.at_ (by omega)
   obtain ⟨A1, c1, hc1, hs1⟩ := hc k _ (H.out.get hlt)
   obtain ⟨A0, c0, hc0, hs0⟩ := hc 0 _ (H.out.get (by omega))
   rw [Nat.add_zero] at hc0
   obtain ⟨L1, hL1⟩ : ∃ L, L = (rs.getD k []).length := ⟨_, rfl⟩
   obtain ⟨L0, hL0⟩ : ∃ L, L = (rs.getD 0 []).length := ⟨_, rfl⟩
   rw [← hL1] at hc1 hs1
   rw [← hL0] at hc0 hs0
   have hm1 := hs1.lim
   have hm0 := hs0.lim
   unfold maxLen at hm1 hm0
   clear hc hs1 hs0
   have HL1 := qH hL1; clear hL1
   have HL0 := qH hL0; clear hL0
   by_cases heq : L1 = L0
   ·have hz : (((L1 : Int) != (L0 : Int))) = false := by simp [heq]
    have Heq := qH heq; clear heq
    go_wp2_with fail
    go_roundw
    case rel => exact ⟨k + 1, by omega, by go_num, fun j hj => by
     by_cases hjk : j = k
     ·subst hjk
      rw [← HL1.out, ← HL0.out, Heq.out]
     ·exact Hall.out j (by omega), trivial⟩
    case measure => simp [intOf]; omega
   ·have hz : (((L1 : Int) != (L0 : Int))) = true := by simp; omega
    have Heq := qH heq; clear heq
    go_wp2_with fail
    go_ret
    have : levelB rs = false := decide_eq_false fun hh => Heq.out (by rw [HL1.out, HL0.out]; exact hh k (by rw [Hlen.out]; exact hlt))
    exact ⟨by rw [this]; rfl, rfl⟩
  ·obtain rfl : k = n := by omega
   go_wp2_with fail
   go_ret
   have : levelB rs = true := decide_eq_true fun j hj => Hall.out j (by rw [← Hlen.out]; exact hj)
   exact ⟨by rw [this]; rfl, rfl⟩
theorem takes_any (k m : Int) (A : Option Addr) (n c : Nat) (rs : List (List UInt8)) (w : World) (h : Gr w A n c rs) :
  Calls Tryz.prog 171 #[.agg #[.int .i64 k, .int .i64 m], .slice A n c] w fun e w' => e = .returned (.bool (evenB rs k)) ∧ Below w.heap.size w w' := by
 have hlim := h.lim
 have hlen := h.len
 unfold maxLen at hlim
 by_cases hn : (n : Int) = k
 ·have hz : ((n : Int) == k) = true := by simpa using hn
  have hd : evenB rs k = levelB rs := by rw [evenB, hlen, decide_eq_true hn, Bool.true_and]
  rw [hd]
  have Hn := qH hn; clear hn hd
  go_enter Tryz.func171, Tryz.ntmps171
  go_wp2_with fail
  refine (level_any A n c rs _ (h.later ((Below.refl _ _).alloc (Nat.le_refl _) _))).mono ?_; rintro e w1 ⟨rfl, rfl⟩
  go_wp2_with fail
  go_ret
  exact ⟨rfl, (Below.refl _ _).alloc (Nat.le_refl _) _⟩
 ·have hz : ((n : Int) == k) = false := by simpa using hn
  have hd : evenB rs k = false := by rw [evenB, hlen, decide_eq_false hn, Bool.false_and]
  rw [hd]
  have Hn := qH hn; clear hn hd
  go_enter Tryz.func171, Tryz.ntmps171
  go_wp2_with fail
  go_ret
  exact ⟨rfl, (Below.refl _ _).alloc (Nat.le_refl _) _⟩
def sumR (W : Nat) (f : List UInt8) (rs : List (List UInt8)) (j : Nat) : List UInt8 := rowL W fun p => xs j fun i => gm (f.getD i 0) ((rs.getD i []).getD p 0)
theorem sumR_zero (W : Nat) (f : List UInt8) (rs : List (List UInt8)) : sumR W f rs 0 = List.replicate W 0 := by
 apply List.ext_getElem
 ·simp [sumR, rowL]
 ·intro i h1 h2
  simp [sumR, rowL, xs]
theorem sumR_length (W : Nat) (f : List UInt8) (rs : List (List UInt8)) (j : Nat) : (sumR W f rs j).length = W := rowL_length _ _
theorem sumR_next (W : Nat) (f : List UInt8) (rs : List (List UInt8)) (j : Nat) (h : (rs.getD j []).length = W) : fld (f.getD j 0) (rs.getD j []) (sumR W f rs j) = sumR W f rs (j + 1) := by
 rw [← rowL_of h, sumR, rowL_fld]
 apply rowL_congr
 intro k hk
 rw [xs]
theorem levelB_at {rs : List (List UInt8)} (h : levelB rs = true) {j : Nat} (hj : j < rs.length) : (rs.getD j []).length = (rs.getD 0 []).length := (of_decide_eq_true h) j hj
theorem enters_fold : ∀ args w, (callFunc 182 args).run Tryz.prog w = .ok (.enter 182 args) w := enters_of Tryz.func182 (by kernel_rfl) rfl
theorem reckon_any (F T : Nat) (Af : Option Addr) (nf cf : Nat) (f : List UInt8) (A : Option Addr) (n c : Nat) (rs : List (List UInt8)) (w : World) (h : Fld1 w F T) (hf : Sl w 1 Af nf cf (cells f)) (hg : Gr w A n c rs) (h1 : 1 ≤ n) (hn : n ≤ nf) (hlv : levelB rs = true) (hW : (rs.getD 0 []).length ≤ 1048576) :
  Calls Tryz.prog 180 #[.slice Af nf cf, .slice A n c, .func (.func 182) #[.pointer (some ⟨F, 0, none⟩)] #[]] w (RetMine w.heap.size w (sumR (rs.getD 0 []).length f rs n)) := by
 have hlim := hf.lim
 have hfl := hf.len
 rw [cells_length, Nat.mul_one] at hfl
 have hlen := hg.len
 unfold maxLen at hlim
 obtain ⟨W, hWd⟩ : ∃ W, W = (rs.getD 0 []).length := ⟨_, rfl⟩
 rw [← hWd] at hW ⊢
 have hmk := make_eq (W : Int) W rfl (by omega)
 obtain ⟨b, o, rfl, hc⟩ := hg.at_ (by omega)
 obtain ⟨A0, c0, hc0, hs0⟩ := hc 0 _ (hg.get (by omega))
 rw [← hWd, Nat.add_zero] at hc0
 have Hf := qH hf; clear hf
 have Hg := qH hg; clear hg
 have H := qH h; clear h
 have HWd := qH hWd; clear hWd
 have Hlen := qH hlen; clear hlen
 have Hfl := qH hfl; clear hfl
 clear hc hs0
 go_enter Tryz.func180, Tryz.ntmps180
 go_wp2_with fail
 go_loopw [7, 17] (fun v i wr => ∃ (k : Nat) (A' : Option Addr) (n' c' : Nat), k ≤ n ∧ i = .int .i64 (k : Int) ∧ v = .slice A' n' c' ∧ Sl wr 1 A' n' c' (cells (sumR W f rs k)) ∧ Mine wr w.heap.size 5 A' n' (cells (sumR W f rs k)) ∧ Below w.heap.size w wr) (fun _ i _ => n - (intOf i).toNat)
 case atStart => exact ⟨0, _, _, _, by omega, rfl, rfl, by rw [sumR_zero]; exact Sl.noughts w W (by unfold maxLen; omega), by rw [sumR_zero]; exact Mine.noughts w W, (Below.refl _ _).alloc (Nat.le_refl _) _⟩
 case round =>
  obtain ⟨k, A', n', c', hk, rfl, rfl, hs, hm, hb⟩ := hrel
  have hn' : n' = W := by
   have := hs.len
   rw [cells_length, sumR_length] at this
   omega
  subst hn'
  have Hs := qH hs; clear hs
  have Hm := qH hm; clear hm
  have Hb := qH hb; clear hb
  by_cases hlt : k < n
  ·obtain ⟨b', o', e, hc⟩ := (Hg.out.later Hb.out).at_ (by omega)
   injection e with e
   injection e with e1 e2
   subst e1; subst e2
   obtain ⟨Ak, ck, hck, hsk⟩ := hc k _ (Hg.out.get hlt)
   have hlk : (rs.getD k []).length = n' := by rw [HWd.out]; exact levelB_at hlv (by rw [Hlen.out]; exact hlt)
   rw [hlk] at hck hsk
   have Hlk := qH hlk; clear hlk
   clear hc
   have hkf : k < f.length := by rw [Hfl.out]; omega
   obtain ⟨bf, of, rfl, hcf⟩ := (Hf.out.below Hb.out (Nat.le_refl _)).at_ (k := k) (by omega)
   have hcell := hcf k _ (cells_get f k hkf)
   rw [bv] at hcell
   obtain ⟨y, hy⟩ : ∃ y, y = f[k] := ⟨_, rfl⟩
   rw [← hy] at hcell
   have Hy := qH hy; clear hy
   have Hcf := qH hcf; clear hcf
   have Hsk := qH hsk; clear hsk
   have hbo : wr.heap.size = wr.heap.size := rfl
   have hef := enters_fold
   go_wp2_with fail
   have hh := fold1_any F T y Ak n' ck (rs.getD k []) A' n' c' (sumR n' f rs k) wr (H.out.later Hb.out) Hsk.out Hs.out (by omega)
   refine hh.mono ?_; clear hh; rintro e w2 ⟨A2, n2, c2, rfl, hs2, hb2, hm2⟩
   have hnext : fld y (rs.getD k []) (sumR n' f rs k) = sumR n' f rs (k + 1) := by
    rw [Hy.out, ← sumR_next n' f rs k Hlk.out, show f.getD k 0 = f[k] from by simp [hkf]]
   rw [hnext] at hs2 hm2
   have Hs2 := qH hs2; clear hs2
   have Hm2 := qH hm2; clear hm2
   have hsz := Hb.out.size
   have Hb2 := qH (Hb.out.trans (hb2.mono hsz)); clear hb2 hnext
   go_wp2_with fail
   go_roundw
   case rel => exact ⟨k + 1, A2, n2, c2, by omega, by go_num, rfl, Hs2.out, Hm2.out.lower hsz, Hb2.out⟩
   case measure => simp [intOf]; omega
  ·obtain rfl : k = n := by omega
   go_wp2_with fail
   go_ret
   exact ⟨A', _, c', rfl, Hs.out, Hb.out, Hm.out⟩
end
section
open Go.RowKit Go.Proofs
def facB (k i j : Nat) : UInt8 := if i < k then (if i = j then 1 else 0) else ginv (UInt8.ofNat i ^^^ UInt8.ofNat j)
def rowC (k i : Nat) : List UInt8 := (List.range k).map (facB k i)
theorem rowC_length (k i : Nat) : (rowC k i).length = k := by simp [rowC]
theorem rowC_getD (k i j : Nat) (h : j < k) : (rowC k i).getD j 0 = facB k i j := by simp [rowC, h]
def rowI (k m : Nat) (i : Int) : List UInt8 := if 0 ≤ i ∧ i < ((k + m : Nat) : Int) then rowC k i.toNat else []
theorem rowC_unit (k i : Nat) (h : i < k) : (List.replicate k (0 : UInt8)).set i 1 = rowC k i := by
 apply List.ext_getElem
 ·simp [rowC]
 ·intro j h1 h2
  simp only [rowC, List.getElem_map, List.getElem_range, facB, if_pos h, List.getElem_set, List.getElem_replicate]
theorem rowC_cau (k i : Nat) (h : k ≤ i) : tabL 1 k (cauM [UInt8.ofNat i] (upto k)) = rowC k i := by
 apply List.ext_getElem
 ·rw [tabL_length, rowC_length, Nat.one_mul]
 ·intro j h1 h2
  rw [rowC_length] at h2
  have hd : j / k = 0 := Nat.div_eq_of_lt h2
  have hm : j % k = j := Nat.mod_eq_of_lt h2
  simp only [tabL, rowC, List.getElem_map, List.getElem_range, hd, hm, cauM, facB, if_neg (show ¬ i < k by omega)]
  congr 2
  rw [List.getD_eq_getElem?_getD, upto_get k j h2, Option.getD_some]
theorem ofNat_inj {a b : Nat} (ha : a < 256) (hb : b < 256) (h : UInt8.ofNat a = UInt8.ofNat b) : a = b := by
 have := congrArg UInt8.toNat h
 rw [UInt8.toNat_ofNat', UInt8.toNat_ofNat'] at this
 omega
theorem once_upto (k i : Nat) (h : k ≤ i) (hi : i ≤ 255) : twiceB ([UInt8.ofNat i] ++ upto k) = false := by
 refine decide_eq_false fun hh => hh ?_
 rw [List.nodup_append]
 refine ⟨by simp, ?_, ?_⟩
 ·rw [List.nodup_iff_pairwise_ne, upto, List.pairwise_map]
  refine List.Pairwise.imp_of_mem ?_ (List.nodup_iff_pairwise_ne.1 (List.nodup_range (n := k)))
  intro a b ha hb hne e
  have ha' := List.mem_range.1 ha
  have hb' := List.mem_range.1 hb
  exact hne (ofNat_inj (by omega) (by omega) e)
 ·intro a ha b hb e
  rw [List.mem_singleton] at ha
  obtain ⟨j, hj, rfl⟩ := List.mem_map.1 hb
  have := List.mem_range.1 hj
  rw [ha] at e
  have := ofNat_inj (by omega) (by omega) e
  omega
theorem sl_one {w : World} {g : Nat} {z : Int} {u : UInt8} (hg : w.heap[g]? = some (.cells #[.int .u8 z] 5 (0, 0))) (hz : z = (u.toNat : Int)) : Sl w 1 (some ⟨g, 0, none⟩) 1 1 (cells [u]) := by
 subst hz
 exact ⟨rfl, Nat.le_refl _, by decide, fun j v hv => ⟨g, 0, rfl, by rw [cell_of_row _ _ _ _ _ _ hg, Nat.zero_add]; simpa [cells, bv] using hv⟩⟩
theorem cauchy1_any (C k m F T i g : Nat) (A2 : Option Addr) (c2 : Nat) (hk : k ≤ i) (hi : i < k + m) (w : World) (h : Cod w C k m F T)
  (hg : w.heap[g]? = some (.cells #[.int .u8 (IntKind.u8.wrap (i : Int))] 5 (0, 0))) (hgT : g ≠ T) (s2 : Sl w 1 A2 k c2 (cells (upto k))) (h2 : ∀ b o, A2 = some ⟨b, o, none⟩ → b ≠ T) :
  Calls Tryz.prog 204 #[.pointer (some ⟨F, 0, none⟩), .slice (some ⟨g, 0, none⟩) 1 1, .slice A2 k c2] w fun e w' =>
   ∃ A n c, e = .returned (.tuple #[.agg #[.int .i64 1, .int .i64 (k : Int), .slice A n c], .int .i64 0]) ∧ Sl w' 1 A n c (cells (rowC k i)) ∧ (∀ b o, A = some ⟨b, o, none⟩ → w.heap.size ≤ b ∧ b < w'.heap.size) ∧ Below w.heap.size w w' := by
 have h1 := h.k1
 have h3 := h.n255
 have hh := cauchy_yes F T (some ⟨g, 0, none⟩) 1 1 [UInt8.ofNat i] A2 k c2 (upto k) w h.fld.fld ⟨sl_one hg (by rw [UInt8.toNat_ofNat', IntKind.wrap_u8]; omega), fun b o _ e => by injection e with e; injection e with e _; omega⟩ ⟨s2, fun b o _ e => h2 b o e⟩ ⟨by omega, by omega⟩ ⟨h1, by omega⟩ (once_upto k i hk (by omega))
 refine hh.mono ?_; rintro e w' ⟨⟨A, c, rfl, hgr⟩, hf, hr⟩
 have hn : 0 < 1 * k := by omega
 refine ⟨A, 1 * k, c, rfl, by rw [← rowC_cau k i hk]; exact hgr.own.sl, fun b o e => ⟨ownsRow_new (hgr.row hn) hn e, hgr.own.sl.lt (by decide) hn e⟩, Fr.madeAll h.fld hf hr⟩
theorem crow_any (C k m F T : Nat) (i : Int) (hi1 : -9223372036854775808 ≤ i) (hi2 : i < 9223372036854775808) (w : World) (h : Cod w C k m F T) :
  Calls Tryz.prog 181 #[.pointer (some ⟨C, 0, none⟩), .int .i64 i] w (RetBytes w.heap.size w (rowI k m i)) := by
 have hm := cmade_any C k m F T w h
 have h3 := h.n255
 have hCT : T < w.heap.size := h.fld.fld.ltT
 have H := qH h; clear h
 by_cases hin : 0 ≤ i ∧ i < ((k + m : Nat) : Int)
 ·obtain ⟨I, rfl⟩ : ∃ I : Nat, i = (I : Int) := ⟨i.toNat, by omega⟩
  have hg := fun u => ghas_any k m (I : Int) h3 u
  rw [withinB_t hin] at hg
  rw [rowI, if_pos hin, Int.toNat_natCast]
  have hI : I < k + m := by omega
  clear hin
  by_cases hlt : I < k
  ·have hmk := make_eq (k : Int) k rfl (by omega)
   go_enter Tryz.func181, Tryz.ntmps181
   go_wp2_with fail
   refine hm.mono ?_; clear hm; rintro e w1 ⟨rfl, j, hw1⟩
   have hb1 : Below w.heap.size w w1 := by rw [hw1]; exact below_drewN (Below.refl _ _) j
   clear hw1
   have H1 := qH (H.out.later hb1)
   have c0 := H1.out.c0
   have c1 := H1.out.c1
   go_wp2_with fail
   refine (hg _).mono ?_; clear hg; rintro e w2 ⟨rfl, hb2⟩
   have H2 := qH (H1.out.later hb2)
   have hb := hb1.trans (hb2.mono hb1.size)
   clear c0 c1 hb1 hb2
   have c0 := H2.out.c0
   obtain ⟨g, hg', hB, hc, hz⟩ := (Mine.noughts w2 k).at_ hlt (show (List.replicate k (0 : UInt8))[I]? = some 0 by simp [hlt])
   injection hg' with hg'
   injection hg' with hg' _
   subst hg'
   have hs := Sl.made w2 ((madeCells #[.int .u8 0] k).setIfInBounds I (.int .u8 1)) 5 1 k (by rw [Array.size_setIfInBounds, size_madeCells, Nat.mul_one]) (by unfold maxLen; omega)
   rw [Array.toList_setIfInBounds, toList_madeCells_one, show (List.replicate k (Value.int .u8 0)).set I (.int .u8 1) = cells (rowC k I) from by rw [← rowC_unit k I hlt, cells, List.map_set, List.map_replicate]; rfl] at hs
   have Hs := qH hs; clear hs
   go_wp2_with fail
   go_ret
   exact ⟨_, _, _, rfl, Hs.out, hb.alloc hb.size _⟩
  ·have hlt' : k ≤ I := by omega
   go_enter Tryz.func181, Tryz.ntmps181
   go_wp2_with fail
   refine hm.mono ?_; clear hm; rintro e w1 ⟨rfl, j, hw1⟩
   have hb1 : Below w.heap.size w w1 := by rw [hw1]; exact below_drewN (Below.refl _ _) j
   clear hw1
   have H1 := qH (H.out.later hb1)
   have c0 := H1.out.c0
   have c1 := H1.out.c1
   go_wp2_with fail
   refine (hg _).mono ?_; clear hg; rintro e w2 ⟨rfl, hb2⟩
   have H2 := qH (H1.out.later hb2)
   have hb := hb1.trans (hb2.mono hb1.size)
   have hsz2 := hb.size
   have Hb := qH hb
   clear c0 c1 hb1 hb2 hb
   have c0 := H2.out.c0
   go_upto_region 7 with (fail)
   clear c0
   refine wp_region_held_drew (S := fun w' => Below w2.heap.size w2 w') (by kernel_rfl) (Below.drew (Below.refl _ _)) (fun hHeld => ?_)
   clear hHeld
   have hHeld : Below w2.heap.size w2 w2.drew := Below.drew (Below.refl _ _)
   have hz_0 : w2.heap.size ≤ w2.drew.heap.size ∧ w2.drew.heap.size ≤ w2.heap.size := ⟨Nat.le_refl _, Nat.le_refl _⟩
   obtain ⟨v_W0, hw⟩ : ∃ v_W0, v_W0 = w2.drew := ⟨_, rfl⟩
   rw [← hw] at hHeld hz_0 ⊢
   clear hw
   refine tA 0 (some 38) rfl hHeld ?_
   refine tA 1 (some 39) rfl hHeld ?_
   refine tA 2 (some 40) rfl hHeld ?_
   refine tA 3 (some 41) rfl hHeld ?_ (fun wq hSw => by
    have q0 := (hSw.cell (World.block_lt_of_cell? w2 _ H2.out.c2)).trans H2.out.c2
    go_simp <;> with_reducible rfl)
   refine tA 4 (some 42) rfl hHeld ?_
   refine tA 5 (some 43) rfl hHeld ?_
   refine tA 7 (some 45) rfl hHeld ?_
   refine tA 8 (some 46) rfl hHeld ?_
   refine tA 9 (some 47) rfl hHeld ?_
   refine tA 10 (some 48) rfl hHeld ?_
   refine tA 11 (some 49) rfl hHeld ?_ (fun wq hSw => by
    have q0 := (hSw.cell (World.block_lt_of_cell? w2 _ H2.out.c0)).trans H2.out.c0
    go_simp <;> with_reducible rfl)
   refine wpAnyH_ready (rs := [6, 12, 17]) (by kernel_rfl) (by simp) ?_
   refine AllReadyH.cons (o := ⟨some 44, _, _, _, _, _⟩) rfl (fun K hK => ?_) (AllReadyH.cons (o := ⟨some 50, _, _, _, _, _⟩) rfl (fun K hK => ?_) (AllReadyH.cons (o := ⟨some 6, _, _, _, _, _⟩) rfl (fun K hK => ?_) (AllReadyH.nil)))
   focus
    go_simp
    obtain ⟨g_xs, hg⟩ : ∃ g, g = v_W0.heap.size := ⟨_, rfl⟩
    have hbN : Below v_W0.heap.size v_W0 (v_W0.alloc (.cells #[.int .u8 (IntKind.u8.wrap (I : Int))] 5)) := (Below.refl _ _).alloc (Nat.le_refl _) _
    have hx := heap_alloc_new v_W0 (.cells #[.int .u8 (IntKind.u8.wrap (I : Int))] 5)
    have hz_3 : v_W0.heap.size + 1 ≤ (v_W0.alloc (.cells #[.int .u8 (IntKind.u8.wrap (I : Int))] 5)).heap.size ∧ (v_W0.alloc (.cells #[.int .u8 (IntKind.u8.wrap (I : Int))] 5)).heap.size ≤ v_W0.heap.size + 1 := by simp
    obtain ⟨v_W1, hw⟩ : ∃ v_W1, v_W1 = v_W0.alloc (.cells #[.int .u8 (IntKind.u8.wrap (I : Int))] 5) := ⟨_, rfl⟩
    rw [← hw] at hbN hx hz_3 ⊢
    clear hw
    rw [← hg] at hx ⊢
    have hHeld := hHeld.trans (hbN.mono hHeld.size)
    have hfN : Fr (fun _ => False) v_W0 v_W1 := Fr.of_below hbN
    clear hbN
    have blxs_L1 := qH hx
    clear hx
    have hz_5 : g_xs ≤ v_W0.heap.size ∧ v_W0.heap.size ≤ g_xs := by omega
    clear hg
    refine hK.out _ _ hHeld fun _ => ?_
    clear hK K hfN
    try simp only [Act.put,sA,sB,sC]
   rotate_left
   focus
    go_simp
    have hh := below_any k (by omega) v_W0
    refine hh.mono ?_; clear hh; rintro e v_W1 ⟨A2, n2, c2, rfl, hs2, hbN, hm2⟩
    obtain rfl : n2 = k := by
     have := hs2.len
     rw [cells_length, upto_length, Nat.mul_one] at this
     exact this.symm
    have hA2 : ∀ b o, A2 = some ⟨b, o, none⟩ → w2.heap.size ≤ b := fun b o e => by
     obtain ⟨g, cur, e', hg, _⟩ := hm2 H2.out.k1
     rw [e] at e'; injection e' with e'; injection e' with e' _
     have := hHeld.size
     omega
    have ys_L1 := qH hs2
    clear hs2 hm2
    have hfN : Fr (fun _ => False) v_W0 v_W1 := Fr.of_below hbN
    have hH2 := hHeld.trans (hbN.mono hHeld.size)
    clear hbN
    go_wp2_with fail
    have hHeld := hH2
    clear hH2
    have hz_9 := hfN.size
    refine hK.out _ _ hHeld fun _ => ?_
    clear hK K hfN
    try simp only [Act.put,sA,sB,sC]
   rotate_left
   focus
    go_simp
    obtain ⟨g_box, hg⟩ : ∃ g, g = v_W0.heap.size := ⟨_, rfl⟩
    have hbN : Below v_W0.heap.size v_W0 (v_W0.alloc (.cells #[.int .i64 0, .int .i64 0, .slice none 0 0] 300)) := (Below.refl _ _).alloc (Nat.le_refl _) _
    have hx := heap_alloc_new v_W0 (.cells #[.int .i64 0, .int .i64 0, .slice none 0 0] 300)
    have hz_11 : v_W0.heap.size + 1 ≤ (v_W0.alloc (.cells #[.int .i64 0, .int .i64 0, .slice none 0 0] 300)).heap.size ∧ (v_W0.alloc (.cells #[.int .i64 0, .int .i64 0, .slice none 0 0] 300)).heap.size ≤ v_W0.heap.size + 1 := by simp
    obtain ⟨v_W1, hw⟩ : ∃ v_W1, v_W1 = v_W0.alloc (.cells #[.int .i64 0, .int .i64 0, .slice none 0 0] 300) := ⟨_, rfl⟩
    rw [← hw] at hbN hx hz_11 ⊢
    clear hw
    rw [← hg] at hx ⊢
    have hHeld := hHeld.trans (hbN.mono hHeld.size)
    have hfN : Fr (fun _ => False) v_W0 v_W1 := Fr.of_below hbN
    clear hbN
    have blbox_L1 := qH hx
    clear hx
    have hz_13 : g_box ≤ v_W0.heap.size ∧ v_W0.heap.size ≤ g_box := by omega
    clear hg
    refine hK.out _ _ hHeld fun _ => ?_
    clear hK K hfN
    try simp only [Act.put,sA,sB,sC]
   rotate_left
   all_goals first
    |
     refine wpAnyH_ready (rs := [12, 17]) (by kernel_rfl) (by simp) ?_
     refine AllReadyH.cons (o := ⟨some 50, _, _, _, _, _⟩) rfl (fun K hK => ?_) (AllReadyH.cons (o := ⟨some 6, _, _, _, _, _⟩) rfl (fun K hK => ?_) (AllReadyH.nil))
     focus
      go_simp
      have hh := below_any k (by omega) v_W1
      refine hh.mono ?_; clear hh; rintro e v_W2 ⟨A2, n2, c2, rfl, hs2, hbN, hm2⟩
      obtain rfl : n2 = k := by
       have := hs2.len
       rw [cells_length, upto_length, Nat.mul_one] at this
       exact this.symm
      have hA2 : ∀ b o, A2 = some ⟨b, o, none⟩ → w2.heap.size ≤ b := fun b o e => by
       obtain ⟨g, cur, e', hg, _⟩ := hm2 H2.out.k1
       rw [e] at e'; injection e' with e'; injection e' with e' _
       have := hHeld.size
       omega
      have ys_L2 := qH hs2
      clear hs2 hm2
      have hfN : Fr (fun _ => False) v_W1 v_W2 := Fr.of_below hbN
      have hH2 := hHeld.trans (hbN.mono hHeld.size)
      clear hbN
      go_wp2_with fail
      have hHeld := hH2
      clear hH2
      have hz_17 := hfN.size
      have blxs_L2 := qH (hfN.row_some blxs_L1.out id)
      clear blxs_L1
      refine hK.out _ _ hHeld fun _ => ?_
      clear hK K hfN
      try simp only [Act.put,sA,sB,sC]
     rotate_left
     focus
      go_simp
      obtain ⟨g_box, hg⟩ : ∃ g, g = v_W1.heap.size := ⟨_, rfl⟩
      have hbN : Below v_W1.heap.size v_W1 (v_W1.alloc (.cells #[.int .i64 0, .int .i64 0, .slice none 0 0] 300)) := (Below.refl _ _).alloc (Nat.le_refl _) _
      have hx := heap_alloc_new v_W1 (.cells #[.int .i64 0, .int .i64 0, .slice none 0 0] 300)
      have hz_20 : v_W1.heap.size + 1 ≤ (v_W1.alloc (.cells #[.int .i64 0, .int .i64 0, .slice none 0 0] 300)).heap.size ∧ (v_W1.alloc (.cells #[.int .i64 0, .int .i64 0, .slice none 0 0] 300)).heap.size ≤ v_W1.heap.size + 1 := by simp
      obtain ⟨v_W2, hw⟩ : ∃ v_W2, v_W2 = v_W1.alloc (.cells #[.int .i64 0, .int .i64 0, .slice none 0 0] 300) := ⟨_, rfl⟩
      rw [← hw] at hbN hx hz_20 ⊢
      clear hw
      rw [← hg] at hx ⊢
      have hHeld := hHeld.trans (hbN.mono hHeld.size)
      have hfN : Fr (fun _ => False) v_W1 v_W2 := Fr.of_below hbN
      clear hbN
      have blxs_L2 := qH (hfN.row_some blxs_L1.out id)
      clear blxs_L1
      have blbox_L2 := qH hx
      clear hx
      have hz_23 : g_box ≤ v_W1.heap.size ∧ v_W1.heap.size ≤ g_box := by omega
      clear hg
      refine hK.out _ _ hHeld fun _ => ?_
      clear hK K hfN
      try simp only [Act.put,sA,sB,sC]
     rotate_left
    |
     refine wpAnyH_ready (rs := [6, 17]) (by kernel_rfl) (by simp) ?_
     refine AllReadyH.cons (o := ⟨some 44, _, _, _, _, _⟩) rfl (fun K hK => ?_) (AllReadyH.cons (o := ⟨some 6, _, _, _, _, _⟩) rfl (fun K hK => ?_) (AllReadyH.nil))
     focus
      go_simp
      obtain ⟨g_xs, hg⟩ : ∃ g, g = v_W1.heap.size := ⟨_, rfl⟩
      have hbN : Below v_W1.heap.size v_W1 (v_W1.alloc (.cells #[.int .u8 (IntKind.u8.wrap (I : Int))] 5)) := (Below.refl _ _).alloc (Nat.le_refl _) _
      have hx := heap_alloc_new v_W1 (.cells #[.int .u8 (IntKind.u8.wrap (I : Int))] 5)
      have hz_25 : v_W1.heap.size + 1 ≤ (v_W1.alloc (.cells #[.int .u8 (IntKind.u8.wrap (I : Int))] 5)).heap.size ∧ (v_W1.alloc (.cells #[.int .u8 (IntKind.u8.wrap (I : Int))] 5)).heap.size ≤ v_W1.heap.size + 1 := by simp
      obtain ⟨v_W2, hw⟩ : ∃ v_W2, v_W2 = v_W1.alloc (.cells #[.int .u8 (IntKind.u8.wrap (I : Int))] 5) := ⟨_, rfl⟩
      rw [← hw] at hbN hx hz_25 ⊢
      clear hw
      rw [← hg] at hx ⊢
      have hHeld := hHeld.trans (hbN.mono hHeld.size)
      have hfN : Fr (fun _ => False) v_W1 v_W2 := Fr.of_below hbN
      clear hbN
      have ys_L2 := qH (ys_L1.out.fr hfN (fun _ _ _ _ h => h))
      clear ys_L1
      have blxs_L2 := qH hx
      clear hx
      have hz_28 : g_xs ≤ v_W1.heap.size ∧ v_W1.heap.size ≤ g_xs := by omega
      clear hg
      refine hK.out _ _ hHeld fun _ => ?_
      clear hK K hfN
      try simp only [Act.put,sA,sB,sC]
     rotate_left
     focus
      go_simp
      obtain ⟨g_box, hg⟩ : ∃ g, g = v_W1.heap.size := ⟨_, rfl⟩
      have hbN : Below v_W1.heap.size v_W1 (v_W1.alloc (.cells #[.int .i64 0, .int .i64 0, .slice none 0 0] 300)) := (Below.refl _ _).alloc (Nat.le_refl _) _
      have hx := heap_alloc_new v_W1 (.cells #[.int .i64 0, .int .i64 0, .slice none 0 0] 300)
      have hz_30 : v_W1.heap.size + 1 ≤ (v_W1.alloc (.cells #[.int .i64 0, .int .i64 0, .slice none 0 0] 300)).heap.size ∧ (v_W1.alloc (.cells #[.int .i64 0, .int .i64 0, .slice none 0 0] 300)).heap.size ≤ v_W1.heap.size + 1 := by simp
      obtain ⟨v_W2, hw⟩ : ∃ v_W2, v_W2 = v_W1.alloc (.cells #[.int .i64 0, .int .i64 0, .slice none 0 0] 300) := ⟨_, rfl⟩
      rw [← hw] at hbN hx hz_30 ⊢
      clear hw
      rw [← hg] at hx ⊢
      have hHeld := hHeld.trans (hbN.mono hHeld.size)
      have hfN : Fr (fun _ => False) v_W1 v_W2 := Fr.of_below hbN
      clear hbN
      have ys_L2 := qH (ys_L1.out.fr hfN (fun _ _ _ _ h => h))
      clear ys_L1
      have blbox_L2 := qH hx
      clear hx
      have hz_33 : g_box ≤ v_W1.heap.size ∧ v_W1.heap.size ≤ g_box := by omega
      clear hg
      refine hK.out _ _ hHeld fun _ => ?_
      clear hK K hfN
      try simp only [Act.put,sA,sB,sC]
     rotate_left
    |
     refine wpAnyH_ready (rs := [6, 12]) (by kernel_rfl) (by simp) ?_
     refine AllReadyH.cons (o := ⟨some 44, _, _, _, _, _⟩) rfl (fun K hK => ?_) (AllReadyH.cons (o := ⟨some 50, _, _, _, _, _⟩) rfl (fun K hK => ?_) (AllReadyH.nil))
     focus
      go_simp
      obtain ⟨g_xs, hg⟩ : ∃ g, g = v_W1.heap.size := ⟨_, rfl⟩
      have hbN : Below v_W1.heap.size v_W1 (v_W1.alloc (.cells #[.int .u8 (IntKind.u8.wrap (I : Int))] 5)) := (Below.refl _ _).alloc (Nat.le_refl _) _
      have hx := heap_alloc_new v_W1 (.cells #[.int .u8 (IntKind.u8.wrap (I : Int))] 5)
      have hz_35 : v_W1.heap.size + 1 ≤ (v_W1.alloc (.cells #[.int .u8 (IntKind.u8.wrap (I : Int))] 5)).heap.size ∧ (v_W1.alloc (.cells #[.int .u8 (IntKind.u8.wrap (I : Int))] 5)).heap.size ≤ v_W1.heap.size + 1 := by simp
      obtain ⟨v_W2, hw⟩ : ∃ v_W2, v_W2 = v_W1.alloc (.cells #[.int .u8 (IntKind.u8.wrap (I : Int))] 5) := ⟨_, rfl⟩
      rw [← hw] at hbN hx hz_35 ⊢
      clear hw
      rw [← hg] at hx ⊢
      have hHeld := hHeld.trans (hbN.mono hHeld.size)
      have hfN : Fr (fun _ => False) v_W1 v_W2 := Fr.of_below hbN
      clear hbN
      have blbox_L2 := qH (hfN.row_some blbox_L1.out id)
      clear blbox_L1
      have blxs_L2 := qH hx
      clear hx
      have hz_38 : g_xs ≤ v_W1.heap.size ∧ v_W1.heap.size ≤ g_xs := by omega
      clear hg
      refine hK.out _ _ hHeld fun _ => ?_
      clear hK K hfN
      try simp only [Act.put,sA,sB,sC]
     rotate_left
     focus
      go_simp
      have hh := below_any k (by omega) v_W1
      refine hh.mono ?_; clear hh; rintro e v_W2 ⟨A2, n2, c2, rfl, hs2, hbN, hm2⟩
      obtain rfl : n2 = k := by
       have := hs2.len
       rw [cells_length, upto_length, Nat.mul_one] at this
       exact this.symm
      have hA2 : ∀ b o, A2 = some ⟨b, o, none⟩ → w2.heap.size ≤ b := fun b o e => by
       obtain ⟨g, cur, e', hg, _⟩ := hm2 H2.out.k1
       rw [e] at e'; injection e' with e'; injection e' with e' _
       have := hHeld.size
       omega
      have ys_L2 := qH hs2
      clear hs2 hm2
      have hfN : Fr (fun _ => False) v_W1 v_W2 := Fr.of_below hbN
      have hH2 := hHeld.trans (hbN.mono hHeld.size)
      clear hbN
      go_wp2_with fail
      have hHeld := hH2
      clear hH2
      have hz_42 := hfN.size
      have blbox_L2 := qH (hfN.row_some blbox_L1.out id)
      clear blbox_L1
      refine hK.out _ _ hHeld fun _ => ?_
      clear hK K hfN
      try simp only [Act.put,sA,sB,sC]
     rotate_left
   all_goals first
    |
     refine wpAnyH_ready (rs := [13, 17]) (by kernel_rfl) (by simp) ?_
     refine AllReadyH.cons (o := ⟨some 51, _, _, _, _, _⟩) rfl (fun K hK => ?_) (AllReadyH.cons (o := ⟨some 6, _, _, _, _, _⟩) rfl (fun K hK => ?_) (AllReadyH.nil))
     focus
      go_simp
      have hh := cauchy1_any C n2 m F T I g_xs A2 c2 hlt' hI v_W2 (H2.out.later hHeld) blxs_L2.out (by omega) ys_L2.out (fun b o e => by have := hA2 b o e; omega)
      refine hh.mono ?_; clear hh; rintro e v_W3 ⟨A6, n6, c6, rfl, hs6, hA6, hbN⟩
      have res_L3 := qH hs6
      clear hs6
      have hfN : Fr (fun _ => False) v_W2 v_W3 := Fr.of_below hbN
      have hH2 := hHeld.trans (hbN.mono hHeld.size)
      clear hbN
      go_wp2_with fail
      have hHeld := hH2
      clear hH2
      have hz_47 := hfN.size
      have blxs_L3 := qH (hfN.row_some blxs_L2.out id)
      clear blxs_L2
      have ys_L3 := qH (ys_L2.out.fr hfN (fun _ _ _ _ h => h))
      clear ys_L2
      refine hK.out _ _ hHeld fun _ => ?_
      clear hK K hfN
      try simp only [Act.put,sA,sB,sC]
      refine tA 14 (some 37) rfl hHeld ?_
      refine tA 15 (some 52) rfl hHeld ?_
      refine tA 16 (some 53) rfl hHeld ?_
     rotate_left
     focus
      go_simp
      obtain ⟨g_box, hg⟩ : ∃ g, g = v_W2.heap.size := ⟨_, rfl⟩
      have hbN : Below v_W2.heap.size v_W2 (v_W2.alloc (.cells #[.int .i64 0, .int .i64 0, .slice none 0 0] 300)) := (Below.refl _ _).alloc (Nat.le_refl _) _
      have hx := heap_alloc_new v_W2 (.cells #[.int .i64 0, .int .i64 0, .slice none 0 0] 300)
      have hz_51 : v_W2.heap.size + 1 ≤ (v_W2.alloc (.cells #[.int .i64 0, .int .i64 0, .slice none 0 0] 300)).heap.size ∧ (v_W2.alloc (.cells #[.int .i64 0, .int .i64 0, .slice none 0 0] 300)).heap.size ≤ v_W2.heap.size + 1 := by simp
      obtain ⟨v_W3, hw⟩ : ∃ v_W3, v_W3 = v_W2.alloc (.cells #[.int .i64 0, .int .i64 0, .slice none 0 0] 300) := ⟨_, rfl⟩
      rw [← hw] at hbN hx hz_51 ⊢
      clear hw
      rw [← hg] at hx ⊢
      have hHeld := hHeld.trans (hbN.mono hHeld.size)
      have hfN : Fr (fun _ => False) v_W2 v_W3 := Fr.of_below hbN
      clear hbN
      have blxs_L3 := qH (hfN.row_some blxs_L2.out id)
      clear blxs_L2
      have ys_L3 := qH (ys_L2.out.fr hfN (fun _ _ _ _ h => h))
      clear ys_L2
      have blbox_L3 := qH hx
      clear hx
      have hz_55 : g_box ≤ v_W2.heap.size ∧ v_W2.heap.size ≤ g_box := by omega
      clear hg
      refine hK.out _ _ hHeld fun _ => ?_
      clear hK K hfN
      try simp only [Act.put,sA,sB,sC]
     rotate_left
    |
     refine rW 12 (some 50) rfl fun K hK => ?_
     go_simp
     have hh := below_any k (by omega) v_W2
     refine hh.mono ?_; clear hh; rintro e v_W3 ⟨A2, n2, c2, rfl, hs2, hbN, hm2⟩
     obtain rfl : n2 = k := by
      have := hs2.len
      rw [cells_length, upto_length, Nat.mul_one] at this
      exact this.symm
     have hA2 : ∀ b o, A2 = some ⟨b, o, none⟩ → w2.heap.size ≤ b := fun b o e => by
      obtain ⟨g, cur, e', hg, _⟩ := hm2 H2.out.k1
      rw [e] at e'; injection e' with e'; injection e' with e' _
      have := hHeld.size
      omega
     have ys_L3 := qH hs2
     clear hs2 hm2
     have hfN : Fr (fun _ => False) v_W2 v_W3 := Fr.of_below hbN
     have hH2 := hHeld.trans (hbN.mono hHeld.size)
     clear hbN
     go_wp2_with fail
     have hHeld := hH2
     clear hH2
     have hz_59 := hfN.size
     have blxs_L3 := qH (hfN.row_some blxs_L2.out id)
     clear blxs_L2
     have blbox_L3 := qH (hfN.row_some blbox_L2.out id)
     clear blbox_L2
     refine hK.out _ _ hHeld fun _ => ?_
     clear hK K hfN
     try simp only [Act.put,sA,sB,sC]
    |
     refine rW 6 (some 44) rfl fun K hK => ?_
     go_simp
     obtain ⟨g_xs, hg⟩ : ∃ g, g = v_W2.heap.size := ⟨_, rfl⟩
     have hbN : Below v_W2.heap.size v_W2 (v_W2.alloc (.cells #[.int .u8 (IntKind.u8.wrap (I : Int))] 5)) := (Below.refl _ _).alloc (Nat.le_refl _) _
     have hx := heap_alloc_new v_W2 (.cells #[.int .u8 (IntKind.u8.wrap (I : Int))] 5)
     have hz_63 : v_W2.heap.size + 1 ≤ (v_W2.alloc (.cells #[.int .u8 (IntKind.u8.wrap (I : Int))] 5)).heap.size ∧ (v_W2.alloc (.cells #[.int .u8 (IntKind.u8.wrap (I : Int))] 5)).heap.size ≤ v_W2.heap.size + 1 := by simp
     obtain ⟨v_W3, hw⟩ : ∃ v_W3, v_W3 = v_W2.alloc (.cells #[.int .u8 (IntKind.u8.wrap (I : Int))] 5) := ⟨_, rfl⟩
     rw [← hw] at hbN hx hz_63 ⊢
     clear hw
     rw [← hg] at hx ⊢
     have hHeld := hHeld.trans (hbN.mono hHeld.size)
     have hfN : Fr (fun _ => False) v_W2 v_W3 := Fr.of_below hbN
     clear hbN
     have ys_L3 := qH (ys_L2.out.fr hfN (fun _ _ _ _ h => h))
     clear ys_L2
     have blbox_L3 := qH (hfN.row_some blbox_L2.out id)
     clear blbox_L2
     have blxs_L3 := qH hx
     clear hx
     have hz_67 : g_xs ≤ v_W2.heap.size ∧ v_W2.heap.size ≤ g_xs := by omega
     clear hg
     refine hK.out _ _ hHeld fun _ => ?_
     clear hK K hfN
     try simp only [Act.put,sA,sB,sC]
   all_goals first
    |
     refine rW 17 (some 6) rfl fun K hK => ?_
     go_simp
     obtain ⟨g_box, hg⟩ : ∃ g, g = v_W3.heap.size := ⟨_, rfl⟩
     have hbN : Below v_W3.heap.size v_W3 (v_W3.alloc (.cells #[.int .i64 0, .int .i64 0, .slice none 0 0] 300)) := (Below.refl _ _).alloc (Nat.le_refl _) _
     have hx := heap_alloc_new v_W3 (.cells #[.int .i64 0, .int .i64 0, .slice none 0 0] 300)
     have hz_69 : v_W3.heap.size + 1 ≤ (v_W3.alloc (.cells #[.int .i64 0, .int .i64 0, .slice none 0 0] 300)).heap.size ∧ (v_W3.alloc (.cells #[.int .i64 0, .int .i64 0, .slice none 0 0] 300)).heap.size ≤ v_W3.heap.size + 1 := by simp
     obtain ⟨v_W4, hw⟩ : ∃ v_W4, v_W4 = v_W3.alloc (.cells #[.int .i64 0, .int .i64 0, .slice none 0 0] 300) := ⟨_, rfl⟩
     rw [← hw] at hbN hx hz_69 ⊢
     clear hw
     rw [← hg] at hx ⊢
     have hHeld := hHeld.trans (hbN.mono hHeld.size)
     have hfN : Fr (fun _ => False) v_W3 v_W4 := Fr.of_below hbN
     clear hbN
     have blxs_L4 := qH (hfN.row_some blxs_L3.out id)
     clear blxs_L3
     have ys_L4 := qH (ys_L3.out.fr hfN (fun _ _ _ _ h => h))
     clear ys_L3
     have res_L4 := qH (res_L3.out.fr hfN (fun _ _ _ _ h => h))
     clear res_L3
     have blbox_L4 := qH hx
     clear hx
     have hz_74 : g_box ≤ v_W3.heap.size ∧ v_W3.heap.size ≤ g_box := by omega
     clear hg
     refine hK.out _ _ hHeld fun _ => ?_
     clear hK K hfN
     try simp only [Act.put,sA,sB,sC]
    |
     refine rW 13 (some 51) rfl fun K hK => ?_
     go_simp
     have hh := cauchy1_any C n2 m F T I g_xs A2 c2 hlt' hI v_W3 (H2.out.later hHeld) blxs_L3.out (by omega) ys_L3.out (fun b o e => by have := hA2 b o e; omega)
     refine hh.mono ?_; clear hh; rintro e v_W4 ⟨A6, n6, c6, rfl, hs6, hA6, hbN⟩
     have res_L4 := qH hs6
     clear hs6
     have hfN : Fr (fun _ => False) v_W3 v_W4 := Fr.of_below hbN
     have hH2 := hHeld.trans (hbN.mono hHeld.size)
     clear hbN
     go_wp2_with fail
     have hHeld := hH2
     clear hH2
     have hz_78 := hfN.size
     have blxs_L4 := qH (hfN.row_some blxs_L3.out id)
     clear blxs_L3
     have ys_L4 := qH (ys_L3.out.fr hfN (fun _ _ _ _ h => h))
     clear ys_L3
     have blbox_L4 := qH (hfN.row_some blbox_L3.out id)
     clear blbox_L3
     refine hK.out _ _ hHeld fun _ => ?_
     clear hK K hfN
     try simp only [Act.put,sA,sB,sC]
     refine tA 14 (some 37) rfl hHeld ?_
     refine tA 15 (some 52) rfl hHeld ?_
     refine tA 16 (some 53) rfl hHeld ?_
   all_goals
    refine rW 18 none rfl fun K hK => ?_
    have q0 := box0_0 blbox_L4.out; have q1 := box0_1 blbox_L4.out; have q2 := box0_2 blbox_L4.out
    have u0 := box0_free blbox_L4.out 0; have u1 := box0_free blbox_L4.out 1; have u2 := box0_free blbox_L4.out 2
    go_simp
    have hx := box0_set (r := 1) (c := (n2 : Int)) (A := A6) (n := n6) (cp := c6) blbox_L4.out
    have hfN := box0_fr v_W4 (g_box) 1 (n2 : Int) A6 n6 c6
    have hHeld := hHeld.trans (hfN.below hHeld.size (fun k hk => by have hk : k = g_box := hk; omega) |> fun q => q)
    have hz_83 : v_W4.heap.size ≤ (((v_W4.setCell ⟨g_box, 0, none⟩ (.int .i64 1)).setCell ⟨g_box, 1, none⟩ (.int .i64 (n2 : Int))).setCell ⟨g_box, 2, none⟩ (.slice A6 n6 c6)).heap.size ∧ (((v_W4.setCell ⟨g_box, 0, none⟩ (.int .i64 1)).setCell ⟨g_box, 1, none⟩ (.int .i64 (n2 : Int))).setCell ⟨g_box, 2, none⟩ (.slice A6 n6 c6)).heap.size ≤ v_W4.heap.size := by simp
    obtain ⟨v_W5, hw⟩ : ∃ v_W5, v_W5 = (((v_W4.setCell ⟨g_box, 0, none⟩ (.int .i64 1)).setCell ⟨g_box, 1, none⟩ (.int .i64 (n2 : Int))).setCell ⟨g_box, 2, none⟩ (.slice A6 n6 c6)) := ⟨_, rfl⟩
    rw [← hw] at hHeld hx hfN hz_83 ⊢
    clear hw q0 q1 q2 u0 u1 u2
    have blxs_L5 := qH (hfN.row_some blxs_L4.out (fun h => by have h : g_xs = g_box := h; omega))
    clear blxs_L4
    have ys_L5 := qH (trivial)
    clear ys_L4
    have res_L5 := qH (res_L4.out.fr hfN (fun b o hn hA hk => by have hk : b = g_box := hk; have := hA6 b o hA; omega))
    clear res_L4
    clear blbox_L4
    have blbox_L5 := qH hx
    clear hx
    refine hK.out _ _ hHeld fun _ => ?_
    clear hK K hfN
    try simp only [Act.put,sA,sB,sC]
    refine tA 19 (some 7) rfl hHeld ?_
   all_goals
    refine tD ?_
    have q2 := boxM_2 blbox_L5.out
    go_wp2_with fail
    go_ret
    exact ⟨A6, n6, c6, rfl, res_L5.out, Hb.out.trans (hHeld.mono hsz2)⟩
 ·have hg := fun u => ghas_any k m i h3 u
  rw [withinB_f hin] at hg
  rw [rowI, if_neg hin]
  have Hin := qH hin; clear hin
  go_enter Tryz.func181, Tryz.ntmps181
  go_wp2_with fail
  refine hm.mono ?_; clear hm; rintro e w1 ⟨rfl, j, hw1⟩
  have hb1 : Below w.heap.size w w1 := by rw [hw1]; exact below_drewN (Below.refl _ _) j
  clear hw1
  have H1 := qH (H.out.later hb1)
  have c0 := H1.out.c0
  have c1 := H1.out.c1
  go_wp2_with fail
  refine (hg _).mono ?_; clear hg; rintro e w2 ⟨rfl, hb2⟩
  have hb := hb1.trans (hb2.mono hb1.size)
  clear c0 c1 hb1 hb2
  go_wp2_with fail
  go_ret
  exact ⟨none, 0, 0, rfl, Sl.nil _ 1 0 (by decide), hb⟩
end
end Go.Proofs.YtokbhgbajdomnaaGreatDoor

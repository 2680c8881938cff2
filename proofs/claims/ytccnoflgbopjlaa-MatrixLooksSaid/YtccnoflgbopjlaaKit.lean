/-
  Words of our own on slices in memory, over any program: a slice value that reads as a list of cells ('Sl'), one to which may be appended without touching older memory ('Own'), the law of append over them, conversions of bytes to strings, comparisons. Nothing here speaks of the program's own text. No condition.
-/
import Derived.WalkKit
import Derived.WalkSpells
import Derived.WalkLawsBesides
import Derived.Deep.AppendSrc
import Derived.Deep.Upon
import Derived.Deep.Draws
import Derived.Laws.BytesArg
import Derived.Lib.Hide
import Derived.Lib.ConvBytes
namespace Go.Proofs.Ytccnoflgbopjlaa
open Go.RowKit

/-- A byte as a cell. -/
def bv (u : UInt8) : Value := .int .u8 (u.toNat : Int)
def cells (l : List UInt8) : List Value := l.map bv

theorem cells_length (l : List UInt8) : (cells l).length = l.length := by simp [cells]
theorem cells_append (l k : List UInt8) : cells (l ++ k) = cells l ++ cells k := by simp [cells]
theorem cells_take (l : List UInt8) (k : Nat) : cells (l.take k) = (cells l).take k := by simp [cells, List.map_take]
theorem cells_drop (l : List UInt8) (k : Nat) : cells (l.drop k) = (cells l).drop k := by simp [cells, List.map_drop]
theorem cells_get (l : List UInt8) (j : Nat) (h : j < l.length) : (cells l)[j]? = some (bv l[j]) := by simp [cells, h]
theorem cells_one (l : List UInt8) : ∀ u ∈ cells l, u.oneCell' = true := by
  intro u hu
  obtain ⟨_, _, rfl⟩ := List.mem_map.1 hu
  rfl

/-- The slice value '.slice A n c' reads as the cells xs, 'size' cells an element. -/
structure Sl (w : World) (size : Nat) (A : Option Addr) (n c : Nat) (xs : List Value) : Prop where
  len : xs.length = n * size
  cap : n ≤ c
  top : c ≤ maxLen
  cell : ∀ j u, xs[j]? = some u → ∃ b o, A = some ⟨b, o, none⟩ ∧ w.cell? ⟨b, o + j, none⟩ = some u

section
variable {w w' : World} {size n c : Nat} {A : Option Addr} {xs : List Value}

theorem Sl.keep (h : Sl w size A n c xs) (hk : ∀ p : Addr, p.block < w.heap.size → w'.cell? p = w.cell? p) : Sl w' size A n c xs :=
  ⟨h.len, h.cap, h.top, fun j u hu => by
    obtain ⟨b, o, e, hc⟩ := h.cell j u hu
    exact ⟨b, o, e, (hk _ (World.block_lt_of_cell? w _ hc)).trans hc⟩⟩
theorem Sl.below (h : Sl w size A n c xs) {B : Nat} (hb : Below B w w') (hB : w.heap.size ≤ B) : Sl w' size A n c xs := h.keep fun _ hp => hb.cell (Nat.lt_of_lt_of_le hp hB)
theorem Sl.drew (h : Sl w size A n c xs) : Sl w.drew size A n c xs := ⟨h.len, h.cap, h.top, h.cell⟩
theorem Sl.drewN (h : Sl w size A n c xs) (k : Nat) : Sl (w.drewN k) size A n c xs := ⟨h.len, h.cap, h.top, h.cell⟩
theorem Sl.alloc (h : Sl w size A n c xs) (o : Obj) : Sl (w.alloc o) size A n c xs := h.keep fun p hp => World.cell?_alloc_lt w o p hp
theorem Sl.nil (w : World) (size : Nat) (c : Nat) (h : c ≤ maxLen) : Sl w size none 0 c [] := ⟨by simp, Nat.zero_le _, h, fun j u hu => by simp at hu⟩
theorem Sl.empty (w : World) (size : Nat) (A : Option Addr) (c : Nat) (h : c ≤ maxLen) : Sl w size A 0 c [] := ⟨by simp, Nat.zero_le _, h, fun j u hu => by simp at hu⟩
theorem Sl.made (w : World) (cs : Array Value) (t : TypeId) (size n : Nat) (hs : cs.size = n * size) (h : n ≤ maxLen) : Sl (w.alloc (.cells cs t)) size (some ⟨w.heap.size, 0, none⟩) n n cs.toList :=
  ⟨by simpa using hs, Nat.le_refl _, h, fun j u hu => ⟨w.heap.size, 0, rfl, by rw [cell_of_row _ _ _ cs t (0, 0) (heap_alloc_new w _), Nat.zero_add]; simpa using hu⟩⟩
theorem Sl.one (w : World) (t : TypeId) (u : UInt8) (z : Int) (h : z = (u.toNat : Int)) : Sl (w.alloc (.cells #[.int .u8 z] t)) 1 (some ⟨w.heap.size, 0, none⟩) 1 1 (cells [u]) := by
  subst h
  exact Sl.made w #[.int .u8 (u.toNat : Int)] t 1 1 rfl (by decide)
theorem Sl.lim (h : Sl w size A n c xs) : n ≤ maxLen := Nat.le_trans h.cap h.top
theorem Sl.recap (h : Sl w size A n c xs) {c' : Nat} (h1 : n ≤ c') (h2 : c' ≤ maxLen) : Sl w size A n c' xs := ⟨h.len, h1, h2, h.cell⟩
theorem Sl.at_ (h : Sl w 1 A n c xs) {k : Nat} (hk : k < n) : ∃ b o, A = some ⟨b, o, none⟩ ∧ ∀ j u, xs[j]? = some u → w.cell? ⟨b, o + j, none⟩ = some u := by
  have h0 : 0 < xs.length := by have := h.len; omega
  obtain ⟨b, o, rfl, _⟩ := h.cell 0 xs[0] (List.getElem?_eq_getElem h0)
  refine ⟨b, o, rfl, fun j u hu => ?_⟩
  obtain ⟨b', o', e, hc⟩ := h.cell j u hu
  injection e with e
  injection e with e1 e2
  subst e1; subst e2
  exact hc
theorem Sl.src {P : Program} {tx e' : TypeId} (hk : P.underlying tx = some (.slice e')) (h : Sl w size A n c xs) (hsz : 0 < size) (h1 : ∀ u ∈ xs, u.oneCell' = true) : Src P size tx (.slice A n c) n xs w := by
  rcases A with _ | ad
  · have hx : xs = [] := by
      rcases xs with _ | ⟨u, r⟩
      · rfl
      · obtain ⟨_, _, e, _⟩ := h.cell 0 u rfl
        cases e
    subst hx
    have hn : n = 0 := by
      rcases Nat.mul_eq_zero.1 (by simpa using h.len.symm) with h0 | h0 <;> omega
    subst hn
    exact Src.ofNil w hk c
  · refine Src.ofSlice w hk ad n c xs h.len (fun j u hu => ?_) h1
    obtain ⟨b, o, e, hc⟩ := h.cell j u hu
    injection e with e
    subst e
    rw [show (⟨b, o, none⟩ : Addr).add j = ⟨b, o + j, none⟩ from by unfold Addr.add; split <;> simp_all]
    exact hc
theorem Sl.firstCells {P : Program} (h : Sl w size A n c xs) : (Builtin.firstCells size n (.slice A n c)).run P w = .ok xs.toArray w := by
  rcases A with _ | ad
  · have hx : xs = [] := by
      rcases xs with _ | ⟨u, r⟩
      · rfl
      · obtain ⟨_, _, e, _⟩ := h.cell 0 u rfl
        cases e
    subst hx
    exact run_firstCells_none w size n n c
  · refine run_firstCells_some w size n ad n c xs h.len (fun j u hu => ?_)
    obtain ⟨b, o, e, hc⟩ := h.cell j u hu
    injection e with e
    subst e
    rw [show (⟨b, o, none⟩ : Addr).add j = ⟨b, o + j, none⟩ from by unfold Addr.add; split <;> simp_all]
    exact hc
end

/-- A slice to which may be appended without touching memory below block B: it is full, or it is a row of the call's own. -/
structure Own (w : World) (B : Nat) (e : TypeId) (size : Nat) (A : Option Addr) (n c : Nat) (xs : List Value) : Prop where
  sl : Sl w size A n c xs
  own : n = c ∨ w.ownsRow B e size (.slice A n c) n xs

section
variable {w w' : World} {B size n c : Nat} {e : TypeId} {A : Option Addr} {xs : List Value}

theorem Own.full (h : Sl w size A n n xs) : Own w B e size A n n xs := ⟨h, .inl rfl⟩
theorem ownsRow_below {v : Value} {m : Nat} (h : w.ownsRow B e size v m xs) (hb : Below w.heap.size w w') : w'.ownsRow B e size v m xs := by
  refine h.kept (row := none) ⟨hb.os, hb.tape, hb.output, hb.size, fun k hk _ => hb.block k hk⟩ ?_
  cases hv : v.ownBlock
  · exact .inl rfl
  · exact .inr (by simp)
theorem Own.below (h : Own w B e size A n c xs) (hb : Below w.heap.size w w') : Own w' B e size A n c xs :=
  ⟨h.sl.below hb (Nat.le_refl _), h.own.imp id fun k => ownsRow_below k hb⟩
theorem Own.drew (h : Own w B e size A n c xs) : Own w.drew B e size A n c xs := h.below (Below.drew (Below.refl _ _))
theorem Own.alloc (h : Own w B e size A n c xs) (o : Obj) : Own (w.alloc o) B e size A n c xs := h.below ((Below.refl _ _).alloc (Nat.le_refl _) o)
theorem Own.lower (h : Own w B e size A n c xs) {B' : Nat} (hB : B' ≤ B) : Own w B' e size A n c xs := ⟨h.sl, h.own.imp id fun k => k.mono hB⟩

theorem setCells_row (P : Program) {g o : Nat} {cur : Array Value} {vs : List Value} (hg : w.heap[g]? = some (.cells cur e (0, 0))) (hl : o + vs.length ≤ cur.size) (h1 : ∀ v ∈ vs, v.oneCell' = true) :
    w.setCells g o vs = w.setRow g (cur.toList.take o ++ vs ++ cur.toList.drop (o + vs.length)).toArray := by
  have a := run_storeCells_at P g o e vs 0 cur w hg (by simpa using hl) h1
  have b := run_storeCells_cells (P := P) g o vs 0 w (fun j hj => by simp [World.cell?, hg]; omega) (fun j _ => by simp [World.frozen?, hg]) h1
  simp only [Nat.add_zero] at a b
  rw [a] at b
  injection b with _ b
  exact b.symm

theorem run_append_mine {P : Program} (t tx ty : TypeId) (i : TypeInfo) (z : Value) (bytes : Nat) (ht : P.underlying t = some (.slice e)) (hi : P.info? e = some i) (hz : i.zero = some z)
    (hsize : i.size = size) (hby : i.bytes = bytes) (hzs : z.cells.size = size) (hsz : 0 < size) (h : Own w B e size A n c xs) (hB : B ≤ w.heap.size)
    (x : Value) (m : Nat) (ys : List Value) (hs : Src P size tx x m ys w) (h63 : n + m ≤ maxLen) (hbytes : (n + m) * bytes ≤ 140737488355328) :
    ∃ A' c' w', (Builtin.append_ #[t, tx] ty #[.slice A n c, x]).run P w = .ok (.slice A' (n + m) c') w' ∧ Own w' B e size A' (n + m) c' (xs ++ ys) ∧ Below B w w' ∧ (0 < m → w'.ownsRow B e size (.slice A' (n + m) c') (n + m) (xs ++ ys)) := by
  subst hsize
  subst hby
  by_cases hm : m = 0
  · subst hm
    have hy : ys = [] := List.eq_nil_of_length_eq_zero (by simpa using hs.newsLen)
    subst hy
    exact ⟨A, c, w, run_append_nothing w t tx ty e i ht hi A n c h.sl.cap x hs, by simpa using h, Below.refl _ _, fun h => absurd h (by omega)⟩
  by_cases hroom : n + m ≤ c
  · rcases h.own with rfl | ho
    · omega
    obtain ⟨hl, hv⟩ := ho
    rcases hv with ⟨hv, _⟩ | ⟨g, cap, cur, hv, hbg, hg, hnc, hcm, hcs, htake⟩
    · injection hv with _ h1 h2
      omega
    injection hv with hA _ hc
    subst hA; subst hc
    have hfit : n * i.size + ys.length ≤ cur.size := by rw [hs.newsLen, hcs, ← Nat.add_mul]; exact Nat.mul_le_mul_right _ hroom
    have hr := run_append_room_src (P := P) w t tx ty e i ht hi g 0 n c x m ys hs hroom (fun j hj => by simp [World.cell?, hg]; omega) (fun j hj => by simp [World.frozen?, hg])
    rw [Nat.zero_add, setCells_row P hg hfit hs.one] at hr
    have hlen : (xs ++ ys).length = (n + m) * i.size := by rw [List.length_append, hl, hs.newsLen, Nat.add_mul]
    have hown : (w.setRow g (cur.toList.take (n * i.size) ++ ys ++ cur.toList.drop (n * i.size + ys.length)).toArray).ownsRow B e i.size (.slice (some ⟨g, 0, none⟩) (n + m) c) (n + m) (xs ++ ys) := by
      refine ⟨hlen, .inr ⟨g, c, _, rfl, hbg, setRow_heap w g cur _ e _ hg, hroom, hcm, ?_, ?_⟩⟩
      · simp only [List.size_toArray, List.length_append, List.length_take, List.length_drop, Array.length_toList]
        omega
      · rw [htake, ← hlen]
        exact List.take_left
    refine ⟨some ⟨g, 0, none⟩, c, _, hr, ⟨⟨hlen, hroom, hcm, fun j u hu => ⟨g, 0, rfl, ?_⟩⟩, .inr hown⟩, ⟨rfl, rfl, rfl, by simp, fun k hk => setRow_other w g k _ (by omega)⟩, fun _ => hown⟩
    have := hown.cells (g := g) rfl j u hu
    rwa [show (⟨g, 0, none⟩ : Addr).add j = ⟨g, 0 + j, none⟩ from by unfold Addr.add; split <;> simp_all] at this
  · have hc : c < n + m := by omega
    have hr := run_append_grow_src (P := P) w t tx ty e i z ht hi hz A n c xs (h.sl.drew.firstCells) x m ys hs hc (by unfold maxLen at h63; omega) (growslice_fits hc hbytes)
    have hge := grownCap_ge w (n + m) c e
    have hcm : grownCap w (n + m) c e ≤ maxLen := grownCap_le_maxLen w (n + m) c e h63
    have hlen : (xs ++ ys).length = (n + m) * i.size := by rw [List.length_append, h.sl.len, hs.newsLen, Nat.add_mul]
    have hown : (w.drew.alloc (.cells ((xs ++ ys).toArray ++ Builtin.zeroCells z.cells (grownCap w (n + m) c e - (n + m))) e)).ownsRow B e i.size
        (.slice (some ⟨w.heap.size, 0, none⟩) (n + m) (grownCap w (n + m) c e)) (n + m) (xs ++ ys) := by
      refine ⟨hlen, .inr ⟨w.heap.size, _, _, rfl, hB, heap_alloc_new w.drew _, hge, hcm, ?_, ?_⟩⟩
      · simp only [Array.size_append, List.size_toArray, size_zeroCells, hzs, hlen, ← Nat.add_mul]
        congr 1
        omega
      · simp only [Array.toList_append]
        rw [← hlen]
        exact List.take_left
    refine ⟨_, _, _, hr, ⟨⟨hlen, hge, hcm, fun j u hu => ⟨w.heap.size, 0, rfl, ?_⟩⟩, .inr hown⟩, (Below.drew (Below.refl _ _)).alloc hB _, fun _ => hown⟩
    have := hown.cells (g := w.heap.size) rfl j u hu
    rwa [show (⟨w.heap.size, 0, none⟩ : Addr).add j = ⟨w.heap.size, 0 + j, none⟩ from by unfold Addr.add; split <;> simp_all] at this

theorem run_append_any {P : Program} (t tx ty : TypeId) (i : TypeInfo) (z : Value) (bytes : Nat) (ht : P.underlying t = some (.slice e)) (hi : P.info? e = some i) (hz : i.zero = some z)
    (hsize : i.size = size) (hby : i.bytes = bytes) (hzs : z.cells.size = size) (hsz : 0 < size) (h : Own w B e size A n c xs) (hB : B ≤ w.heap.size)
    (x : Value) (m : Nat) (ys : List Value) (hs : Src P size tx x m ys w) (h63 : n + m ≤ maxLen) (hbytes : (n + m) * bytes ≤ 140737488355328) :
    ∃ A' c' w', (Builtin.append_ #[t, tx] ty #[.slice A n c, x]).run P w = .ok (.slice A' (n + m) c') w' ∧ Own w' B e size A' (n + m) c' (xs ++ ys) ∧ Below B w w' := by
  obtain ⟨A', c', w', h1, h2, h3, _⟩ := run_append_mine t tx ty i z bytes ht hi hz hsize hby hzs hsz h hB x m ys hs h63 hbytes
  exact ⟨A', c', w', h1, h2, h3⟩

theorem wp_append_any {P : Program} {o : Oper} {a : Act} {K : Act → World → Prop} {Q : Exit → Act → World → Prop} (s x : Operand) (t tx : TypeId)
    (ho : o.op = .call { callee := .builtin .append, args := #[s, x], argTypes := #[t, tx] })
    (i : TypeInfo) (z : Value) (bytes : Nat) (ht : P.underlying t = some (.slice e)) (hi : P.info? e = some i) (hz : i.zero = some z)
    (hsize : i.size = size) (hby : i.bytes = bytes) (hzs : z.cells.size = size) (hsz : 0 < size) (hv : a.eval s = .slice A n c) (h : Own w B e size A n c xs) (hB : B ≤ w.heap.size)
    (m : Nat) (ys : List Value) (xv : Value) (hx : a.eval x = xv) (hs : Src P size tx xv m ys w) (h63 : n + m ≤ maxLen) (hbytes : (n + m) * bytes ≤ 140737488355328)
    (hk : ∀ A' c' w', Own w' B e size A' (n + m) c' (xs ++ ys) → Below B w w' → K (a.put o.dst (.slice A' (n + m) c')) w') : o.wp P a w K Q := by
  obtain ⟨A', c', w', hr, h2, h3⟩ := run_append_any (P := P) t tx o.type i z bytes ht hi hz hsize hby hzs hsz h hB xv m ys hs h63 hbytes
  unfold Oper.wp execOp
  simp only [ho, resolve, invoke, builtin, Sem.run_bind, Sem.run_pure, Result.andThen_ok, List.map_toArray, List.map_cons, List.map_nil, hv, hx, hr]
  exact hk A' c' w' h2 h3

theorem wpList_append_any {P : Program} {ops : Array Oper} {rest : List Oper} {o : Oper} {a : Act} {Q : Exit → Act → World → Prop} (hgd : o.guard = none) (s x : Operand) (t tx : TypeId)
    (ho : o.op = .call { callee := .builtin .append, args := #[s, x], argTypes := #[t, tx] })
    (i : TypeInfo) (z : Value) (bytes : Nat) (ht : P.underlying t = some (.slice e)) (hi : P.info? e = some i) (hz : i.zero = some z)
    (hsize : i.size = size) (hby : i.bytes = bytes) (hzs : z.cells.size = size) (hsz : 0 < size) (hv : a.eval s = .slice A n c) (h : Own w B e size A n c xs) (hB : B ≤ w.heap.size)
    (m : Nat) (ys : List Value) (xv : Value) (hx : a.eval x = xv) (hs : Src P size tx xv m ys w) (h63 : n + m ≤ maxLen) (hbytes : (n + m) * bytes ≤ 140737488355328)
    (hk : ∀ A' c' w', Own w' B e size A' (n + m) c' (xs ++ ys) → Below B w w' → wpList P ops Q rest (a.put o.dst (.slice A' (n + m) c')) w') : wpList P ops Q (o :: rest) a w :=
  wpList_plain hgd fun _ hK => wp_append_any s x t tx ho i z bytes ht hi hz hsize hby hzs hsz hv h hB m ys xv hx hs h63 hbytes fun A' c' w' h2 h3 => hK _ _ (hk A' c' w' h2 h3)
theorem wp_append_mine {P : Program} {o : Oper} {a : Act} {K : Act → World → Prop} {Q : Exit → Act → World → Prop} (s x : Operand) (t tx : TypeId)
    (ho : o.op = .call { callee := .builtin .append, args := #[s, x], argTypes := #[t, tx] })
    (i : TypeInfo) (z : Value) (bytes : Nat) (ht : P.underlying t = some (.slice e)) (hi : P.info? e = some i) (hz : i.zero = some z)
    (hsize : i.size = size) (hby : i.bytes = bytes) (hzs : z.cells.size = size) (hsz : 0 < size) (hv : a.eval s = .slice A n c) (h : Own w B e size A n c xs) (hB : B ≤ w.heap.size)
    (m : Nat) (ys : List Value) (xv : Value) (hx : a.eval x = xv) (hs : Src P size tx xv m ys w) (h63 : n + m ≤ maxLen) (hbytes : (n + m) * bytes ≤ 140737488355328)
    (hk : ∀ A' c' w', Own w' B e size A' (n + m) c' (xs ++ ys) → Below B w w' → (0 < m → w'.ownsRow B e size (.slice A' (n + m) c') (n + m) (xs ++ ys)) → K (a.put o.dst (.slice A' (n + m) c')) w') : o.wp P a w K Q := by
  obtain ⟨A', c', w', hr, h2, h3, h4⟩ := run_append_mine (P := P) t tx o.type i z bytes ht hi hz hsize hby hzs hsz h hB xv m ys hs h63 hbytes
  unfold Oper.wp execOp
  simp only [ho, resolve, invoke, builtin, Sem.run_bind, Sem.run_pure, Result.andThen_ok, List.map_toArray, List.map_cons, List.map_nil, hv, hx, hr]
  exact hk A' c' w' h2 h3 h4

theorem wpList_append_mine {P : Program} {ops : Array Oper} {rest : List Oper} {o : Oper} {a : Act} {Q : Exit → Act → World → Prop} (hgd : o.guard = none) (s x : Operand) (t tx : TypeId)
    (ho : o.op = .call { callee := .builtin .append, args := #[s, x], argTypes := #[t, tx] })
    (i : TypeInfo) (z : Value) (bytes : Nat) (ht : P.underlying t = some (.slice e)) (hi : P.info? e = some i) (hz : i.zero = some z)
    (hsize : i.size = size) (hby : i.bytes = bytes) (hzs : z.cells.size = size) (hsz : 0 < size) (hv : a.eval s = .slice A n c) (h : Own w B e size A n c xs) (hB : B ≤ w.heap.size)
    (m : Nat) (ys : List Value) (xv : Value) (hx : a.eval x = xv) (hs : Src P size tx xv m ys w) (h63 : n + m ≤ maxLen) (hbytes : (n + m) * bytes ≤ 140737488355328)
    (hk : ∀ A' c' w', Own w' B e size A' (n + m) c' (xs ++ ys) → Below B w w' → (0 < m → w'.ownsRow B e size (.slice A' (n + m) c') (n + m) (xs ++ ys)) → wpList P ops Q rest (a.put o.dst (.slice A' (n + m) c')) w') : wpList P ops Q (o :: rest) a w :=
  wpList_plain hgd fun _ hK => wp_append_mine s x t tx ho i z bytes ht hi hz hsize hby hzs hsz hv h hB m ys xv hx hs h63 hbytes fun A' c' w' h2 h3 h4 => hK _ _ (hk A' c' w' h2 h3 h4)
end

/-- Cells that lie in a block of the call's own (number B or above), which may be written. -/
def Mine (w : World) (B : Nat) (e : TypeId) (A : Option Addr) (n : Nat) (xs : List Value) : Prop :=
  0 < n → ∃ g cur, A = some ⟨g, 0, none⟩ ∧ B ≤ g ∧ w.heap[g]? = some (.cells cur e (0, 0)) ∧ n ≤ cur.size ∧ cur.toList.take n = xs
theorem Mine.of_own {w : World} {B n c : Nat} {e : TypeId} {A : Option Addr} {xs : List Value} (h : w.ownsRow B e 1 (.slice A n c) n xs) : Mine w B e A n xs := by
  intro hn
  rcases h.2 with ⟨hv, h0⟩ | ⟨g, cap, cur, hv, hb, hg, hnc, hcm, hcs, ht⟩
  · omega
  · injection hv with hA _ hc
    exact ⟨g, cur, hA, hb, hg, by omega, by simpa using ht⟩

/-- The string of bytes. -/
def bstr (l : List UInt8) : ByteArray := ⟨l.toArray⟩
theorem bstr_toList (l : List UInt8) : (bstr l).toList = l := by simp [bstr, ByteArray.toList_eq]
theorem bstr_data (l : List UInt8) : (bstr l).data.toList = l := by simp [bstr]
theorem bstr_size (l : List UInt8) : (bstr l).size = l.length := by simp [bstr, ByteArray.size]

theorem run_string_of {P : Program} {w : World} {A : Option Addr} {n c : Nat} {l : List UInt8} (src e dst : TypeId) (hs : P.underlying src = some (.slice e)) (he : P.underlying e = some (.int .u8)) (hd : P.underlying dst = some .string)
    (h : Sl w 1 A n c (cells l)) : (convert src dst (.slice A n c)).run P w = .ok (.string (bstr l)) w := by
  have hn : l.length = n := by have := h.len; rw [cells_length] at this; omega
  rcases A with _ | ad
  · have hx : l = [] := by
      rcases l with _ | ⟨u, r⟩
      · rfl
      · obtain ⟨_, _, e, _⟩ := h.cell 0 (bv u) rfl
        cases e
    subst hx
    exact run_convert_bytes_nil w src e hs he n c dst hd
  · rw [run_convert_bytes_string w src dst e _ n c hs he hd, run_bytesToString w ad n c (l.map fun u => (u.toNat : Int)), foldl_push_bytes]
    · simp only [bstr, List.map_map]
      congr 2
      have : (fun n : Int => UInt8.ofNat n.toNat) ∘ (fun u : UInt8 => (u.toNat : Int)) = id := by
        funext u
        simp
      rw [this]
      simp [ByteArray.empty, ByteArray.emptyWithCapacity]
      rfl
    · have hf := h.firstCells (P := P)
      simp only [Builtin.firstCells, Nat.mul_one] at hf
      rw [hf]
      congr 2
      simp [cells, bv]

/-- A string's bytes, in new memory. -/
theorem run_bytes_of {P : Program} (w : World) (src dst e : TypeId) (hs : P.underlying src = some .string) (hd : P.underlying dst = some (.slice e)) (he : P.underlying e = some (.int .u8)) (s : ByteArray) (h : s.size ≤ maxLen) :
    ∃ A c w', (convert src dst (.string s)).run P w = .ok (.slice A s.size c) w' ∧ Sl w' 1 A s.size c (cells s.data.toList) ∧ Below w.heap.size w w' := by
  refine ⟨_, _, _, Lib.run_convert_string_bytes w src dst e s hs hd he, ⟨by rw [cells_length, Nat.mul_one]; rfl, grownCap_ge w s.size 0 e, grownCap_le_maxLen w s.size 0 e h, fun j u hu => ⟨w.heap.size, 0, rfl, ?_⟩⟩,
    ⟨rfl, rfl, rfl, by rw [Lib.bytesWorld_size]; omega, fun k hk => Lib.bytesWorld_at_old w e s k hk⟩⟩
  have hj : j < s.data.toList.length := by
    rcases Nat.lt_or_ge j s.data.toList.length with h' | h'
    · exact h'
    · rw [List.getElem?_eq_none (by rw [cells_length]; exact h')] at hu
      cases hu
  rw [Nat.zero_add, Lib.bytesWorld_cell w e s j (by rw [Array.length_toList] at hj; exact hj)]
  rw [cells_get _ _ hj] at hu
  rw [← hu, bv, List.getD_eq_getElem?_getD, List.getElem?_eq_getElem hj]
  rfl

/-- A piece of a slice. -/
theorem Sl.sub {w : World} {size n c : Nat} {A : Option Addr} {xs : List Value} (h : Sl w size A n c xs) (lo hi c' : Nat) (h1 : lo ≤ hi) (h2 : hi ≤ n) (hc : hi - lo ≤ c') (hc' : c' ≤ maxLen) :
    Sl w size (A.map (·.add (lo * size))) (hi - lo) c' ((xs.drop (lo * size)).take ((hi - lo) * size)) := by
  refine ⟨?_, hc, hc', fun j u hu => ?_⟩
  · rw [List.length_take, List.length_drop, h.len, ← Nat.sub_mul]
    exact Nat.min_eq_left (Nat.mul_le_mul_right _ (by omega))
  · rw [List.getElem?_take] at hu
    split at hu
    · rw [List.getElem?_drop] at hu
      obtain ⟨b, o, rfl, hcell⟩ := h.cell _ u hu
      refine ⟨b, o + lo * size, ?_, by rw [Nat.add_assoc]; exact hcell⟩
      rw [Option.map_some, Addr.add_lit]
    · cases hu
theorem Sl.sub1 {w : World} {n c : Nat} {A : Option Addr} {l : List UInt8} (h : Sl w 1 A n c (cells l)) (lo hi c' : Nat) (h1 : lo ≤ hi) (h2 : hi ≤ n) (hc : hi - lo ≤ c') (hc' : c' ≤ maxLen) :
    Sl w 1 (A.map (·.add lo)) (hi - lo) c' (cells ((l.drop lo).take (hi - lo))) := by
  have := h.sub lo hi c' h1 h2 hc hc'
  rwa [Nat.mul_one, Nat.mul_one, ← cells_drop, ← cells_take] at this

theorem ret3_eq {k1 k2 k3 : IntKind} {a b c a' b' c' : Int} (h1 : a = a') (h2 : b = b') (h3 : c = c') : Ending.returned (.tuple #[.int k1 a, .int k2 b, .int k3 c]) = Ending.returned (.tuple #[.int k1 a', .int k2 b', .int k3 c']) := by rw [h1, h2, h3]
theorem ret2_eq {k1 k2 : IntKind} {a b a' b' : Int} (h1 : a = a') (h2 : b = b') : Ending.returned (.tuple #[.int k1 a, .int k2 b]) = Ending.returned (.tuple #[.int k1 a', .int k2 b']) := by rw [h1, h2]
end Go.Proofs.Ytccnoflgbopjlaa

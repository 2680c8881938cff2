/-
  Contract of package matrix's reduce. Condition: the field is one that New made, its tables are made.
  Contracts of package matrix's Rank. Condition: the field is one that New made, or nil.
  Contracts of package matrix's columnsOf. No condition.
  Contract of package matrix's Invert. Condition: the field is one that New made, or nil.
  Contract of package matrix's Mul. Condition: the field is one that New made, or nil.
  Contract of package matrix's Mul of two matrices that fit. Condition: the field is one that New made. (Written by gen_mdm.py.)
  Words for Invert: rows that are half done; append as a step of a region that draws. No condition.
  Contract of package matrix's Invert. Condition: the field is one that New made. (Written by gen_mdn.py.)
-/
import Derived.Test.YtjacdabhlnfbkaaGc
import Derived.BigRegion
import Derived.Test.YtjacdabhlnfbkaaGb
import Derived.Deep.DeepCutAuto
import Derived.Outline
namespace Go.Proofs.Ytjacdabhlnfbkaa
open Go.RowKit Go.Proofs
set_option linter.unusedVariables false

/-- The tables' block, or the rows'. -/
abbrev Tg (T g : Nat) : Nat → Prop := fun k => k = T ∨ k = g

end Go.Proofs.Ytjacdabhlnfbkaa

namespace Go.Proofs.Ytjacdabhlnfbkaa
open Go.RowKit Go.Proofs
set_option linter.unusedVariables false

theorem Fr.andNew {S S' : Nat → Prop} {a b c : World} (h : Fr S a b) (k : Fr S' b c) (hs : ∀ i, i < a.heap.size → S' i → S i) : Fr S a c :=
  ⟨k.os.trans h.os, k.tape.trans h.tape, k.output.trans h.output, Nat.le_trans h.size k.size, fun i hi hn => (k.block i (Nat.lt_of_lt_of_le hi h.size) fun hk => hn (hs i hi hk)).trans (h.block i hi hn)⟩
/-- A matrix in memory: its numbers read as l, and lie off T. -/
structure MxAt (w : World) (T : Nat) (A : Option Addr) (N cp : Nat) (l : List UInt8) : Prop where
  sl : Sl w 1 A N cp (cells l)
  off : Off T A N
theorem MxAt.fr {w w' : World} {T N cp : Nat} {A : Option Addr} {l : List UInt8} (h : MxAt w T A N cp l) (hf : Fr (Ft T) w w') : MxAt w' T A N cp l := ⟨h.sl.off hf h.off, h.off⟩
theorem MxAt.later {w w' : World} {T N cp : Nat} {A : Option Addr} {l : List UInt8} (h : MxAt w T A N cp l) (hb : Below w.heap.size w w') : MxAt w' T A N cp l := ⟨h.sl.below hb (Nat.le_refl _), h.off⟩
theorem Grow.at_ {w : World} {B T A k c} {l : List UInt8} (h : Grow w B A k c l) (hT : T < B) : MxAt w T A k c l :=
  ⟨h.own.sl, fun b o hn hA => by
    obtain ⟨_, hv⟩ := h.row hn
    rcases hv with ⟨_, h0⟩ | ⟨g, cap, cur, hv, hb, _⟩
    · omega
    · injection hv with hv _ _
      rw [hA] at hv
      injection hv with hv
      injection hv with hv _
      omega⟩

end Go.Proofs.Ytjacdabhlnfbkaa

namespace Go.Proofs.Ytjacdabhlnfbkaa
open Go.RowKit Go.Proofs
set_option linter.unusedVariables false

/-- The first k of a row stand, noughts behind. -/
def rowN (R k : Nat) (f : Nat → UInt8) : List UInt8 := rowL R fun i => if i < k then f i else 0
theorem rowN_zero (R : Nat) (f : Nat → UInt8) : rowN R 0 f = List.replicate R 0 := by
  apply List.ext_getElem
  · simp [rowN, rowL]
  · intro i h1 h2
    simp [rowN, rowL]
theorem rowN_next (R k : Nat) (f : Nat → UInt8) : (rowN R k f).set k (f k) = rowN R (k + 1) f := by
  apply List.ext_getElem
  · simp [rowN, rowL]
  · intro i h1 h2
    rw [List.getElem_set]
    by_cases he : k = i
    · subst he
      simp [rowN, rowL]
    · have : (i < k + 1) = (i < k) := by apply propext; omega
      simp [rowN, rowL, he, this]
theorem rowN_all (R : Nat) (f : Nat → UInt8) : rowN R R f = rowL R f := rowL_congr fun i hi => if_pos hi

end Go.Proofs.Ytjacdabhlnfbkaa

namespace Go.Proofs.Ytjacdabhlnfbkaa
open Go.RowKit Go.Proofs
set_option linter.unusedVariables false

/-- Nothing, and why. -/
def NoMx (x : Int) : Value := .tuple #[.agg #[.int .i64 0, .int .i64 0, .slice none 0 0], .int .i64 x]
/-- The three stores of a result that is a matrix. -/
def box0 : Obj := .cells #[.int .i64 0, .int .i64 0, .slice none 0 0] 111

theorem box0_0 {w : World} {g : Nat} (h : w.heap[g]? = some box0) : w.cell? ⟨g, 0, none⟩ = some (.int .i64 0) := by rw [cell_of_row _ _ _ _ _ _ h]; rfl
theorem box0_1 {w : World} {g : Nat} (h : w.heap[g]? = some box0) : w.cell? ⟨g, 1, none⟩ = some (.int .i64 0) := by rw [cell_of_row _ _ _ _ _ _ h]; rfl
theorem box0_2 {w : World} {g : Nat} (h : w.heap[g]? = some box0) : w.cell? ⟨g, 2, none⟩ = some (.slice none 0 0) := by rw [cell_of_row _ _ _ _ _ _ h]; rfl
theorem box0_free {w : World} {g : Nat} (h : w.heap[g]? = some box0) (i : Nat) : w.frozen? ⟨g, i, none⟩ = false := frozen_of_row _ _ _ _ _ h

theorem alloc2_new (w : World) (o o' : Obj) : ((w.alloc o).alloc o').heap[w.heap.size + 1]? = some o' := by
  have := heap_alloc_new (w.alloc o) o'
  simpa using this
theorem alloc2_old (w : World) (o o' : Obj) : ((w.alloc o).alloc o').heap[w.heap.size]? = some o := (Below.heap_alloc _ _ _ (by simp)).trans (heap_alloc_new w _)
/-- Of a store into a result's box: what it holds behind it, and what has turned. -/
theorem box0_set {w : World} {g : Nat} {r c : Int} {A : Option Addr} {n cp : Nat} (h : w.heap[g]? = some box0) :
    (((w.setCell ⟨g, 0, none⟩ (.int .i64 r)).setCell ⟨g, 1, none⟩ (.int .i64 c)).setCell ⟨g, 2, none⟩ (.slice A n cp)).heap[g]? = some (boxM r c A n cp) := by
  have e0 := heap_setCell_same w g 0 _ _ (.int .i64 r) h
  have e1 := heap_setCell_same _ g 1 _ _ (.int .i64 c) e0
  have e2 := heap_setCell_same _ g 2 _ _ (.slice A n cp) e1
  exact e2
theorem box0_fr (w : World) (g : Nat) (r c : Int) (A : Option Addr) (n cp : Nat) :
    Fr (fun k => k = g) w (((w.setCell ⟨g, 0, none⟩ (.int .i64 r)).setCell ⟨g, 1, none⟩ (.int .i64 c)).setCell ⟨g, 2, none⟩ (.slice A n cp)) :=
  Fr.setCell (S := fun k => k = g) (Fr.setCell (S := fun k => k = g) (Fr.setCell (S := fun k => k = g) (Fr.refl _ _) (.inr rfl) _) (.inr rfl) _) (.inr rfl) _
theorem Grow.frG {w w' : World} {B k c g : Nat} {A : Option Addr} {l : List UInt8} (h : Grow w B A k c l) (hf : Fr (fun k => k = g) w w') (hg : g < B) : Grow w' B A k c l := by
  have hrow : 0 < k → w'.ownsRow B 5 1 (.slice A k c) k (cells l) := fun h0 => by
    obtain ⟨hl, hv⟩ := h.row h0
    refine ⟨hl, ?_⟩
    rcases hv with hv | ⟨g', cap, cur, hv, hb, hh, r⟩
    · exact .inl hv
    · exact .inr ⟨g', cap, cur, hv, hb, hf.row_some hh (by omega), r⟩
  refine ⟨⟨?_, ?_⟩, hrow⟩
  · refine h.own.sl.fr hf fun b o hn hA hb => ?_
    obtain ⟨_, hv⟩ := h.row hn
    rcases hv with ⟨_, hv0⟩ | ⟨g', cap, cur, hv, hb', _⟩
    · omega
    · injection hv with hv
      rw [hA] at hv
      injection hv with hv
      injection hv with hv _
      omega
  · rcases h.own.own with h1 | ⟨hl, hv⟩
    · exact .inl h1
    · rcases hv with hv | ⟨g', cap, cur, hv, hb, hh, r⟩
      · exact .inr ⟨hl, .inl hv⟩
      · exact .inr ⟨hl, .inr ⟨g', cap, cur, hv, hb, hf.row_some hh (by omega), r⟩⟩

end Go.Proofs.Ytjacdabhlnfbkaa

namespace Go.Proofs.Ytjacdabhlnfbkaa
open Go.RowKit Go.Proofs
set_option linter.unusedVariables false

theorem RowsAt.wid {w : World} {g n W : Nat} {S : Nat → Prop} {M : Mx} (h : RowsAt w g n W S M) (S' : Nat → Prop) (hS : ∀ b, b < w.heap.size → S' b → S b) : RowsAt w g n W S' M := by
  obtain ⟨cur, hg, hn, hr⟩ := h.row
  refine ⟨cur, hg, hn, fun i hi => ?_⟩
  obtain ⟨A, c, h1, h2, h3⟩ := hr i hi
  exact ⟨A, c, h1, h2, fun b o hW hA hb => h3 b o hW hA (hS b (h2.lt (by decide) hW hA) hb)⟩

/-- The world of Mul behind its boxes. -/
def mulW (w : World) (f : Value) (r c : Int) (A : Option Addr) (n cp : Nat) (r' c' : Int) (A' : Option Addr) (n' cp' : Nat) : World :=
  (((w.alloc (.cells #[f] 26)).alloc (.cells #[.int .i64 r, .int .i64 c, .slice A n cp] 111)).alloc (.cells #[.int .i64 r', .int .i64 c', .slice A' n' cp'] 111)).alloc (.cells #[.int .i64 0, .int .i64 0, .slice none 0 0] 111)
section
variable (w : World) (f : Value) (r c : Int) (A : Option Addr) (n cp : Nat) (r' c' : Int) (A' : Option Addr) (n' cp' : Nat)
theorem mulW_size : (mulW w f r c A n cp r' c' A' n' cp').heap.size = w.heap.size + 4 := by simp [mulW]
theorem mulW_below : Below w.heap.size w (mulW w f r c A n cp r' c' A' n' cp') := ((((Below.refl _ _).alloc (Nat.le_refl _) _).alloc (by simp) _).alloc (by simp; omega) _).alloc (by simp; omega) _
theorem mulW_0 : (mulW w f r c A n cp r' c' A' n' cp').heap[w.heap.size]? = some (.cells #[f] 26 (0, 0)) :=
  (Below.heap_alloc _ _ _ (by first | (simp; done) | (simp; omega))).trans ((Below.heap_alloc _ _ _ (by first | (simp; done) | (simp; omega))).trans (alloc2_old w _ _))
theorem mulW_1 : (mulW w f r c A n cp r' c' A' n' cp').heap[w.heap.size + 1]? = some (boxM r c A n cp) :=
  (Below.heap_alloc _ _ _ (by first | (simp; done) | (simp; omega))).trans ((Below.heap_alloc _ _ _ (by first | (simp; done) | (simp; omega))).trans (alloc2_new w _ _))
theorem mulW_2 : (mulW w f r c A n cp r' c' A' n' cp').heap[w.heap.size + 2]? = some (boxM r' c' A' n' cp') := by
  refine (Below.heap_alloc _ _ _ (by simp)).trans ?_
  have := alloc2_new (w.alloc (.cells #[f] 26)) (.cells #[.int .i64 r, .int .i64 c, .slice A n cp] 111) (boxM r' c' A' n' cp')
  rwa [show (w.alloc (.cells #[f] 26)).heap.size + 1 = w.heap.size + 2 from by simp] at this
theorem mulW_3 : (mulW w f r c A n cp r' c' A' n' cp').heap[w.heap.size + 3]? = some box0 := by
  have := alloc2_new ((w.alloc (.cells #[f] 26)).alloc (.cells #[.int .i64 r, .int .i64 c, .slice A n cp] 111)) (boxM r' c' A' n' cp') box0
  rwa [show ((w.alloc (.cells #[f] 26)).alloc (.cells #[.int .i64 r, .int .i64 c, .slice A n cp] 111)).heap.size + 1 = w.heap.size + 3 from by simp] at this
end

/-- A world of Mul's in which the field is made and the boxes lie. -/
structure MulAt (w0 w : World) (F T : Nat) (r c : Int) (A : Option Addr) (n cp : Nat) (r' c' : Int) (A' : Option Addr) (n' cp' : Nat) : Prop where
  fr : Fr (Ft T) w0 w
  fld : Fld1 w F T
  size : w0.heap.size + 4 ≤ w.heap.size
  b0 : w.heap[w0.heap.size]? = some (.cells #[.pointer (some ⟨F, 0, none⟩)] 26 (0, 0))
  b1 : w.heap[w0.heap.size + 1]? = some (boxM r c A n cp)
  b2 : w.heap[w0.heap.size + 2]? = some (boxM r' c' A' n' cp')
  b3 : w.heap[w0.heap.size + 3]? = some box0
theorem MulAt.later {w0 w w' : World} {F T : Nat} {r c : Int} {A : Option Addr} {n cp : Nat} {r' c' : Int} {A' : Option Addr} {n' cp' : Nat} (h : MulAt w0 w F T r c A n cp r' c' A' n' cp') (hb : Below w.heap.size w w') : MulAt w0 w' F T r c A n cp r' c' A' n' cp' :=
  ⟨h.fr.trans (Fr.of_below hb), h.fld.later hb, Nat.le_trans h.size hb.size, (hb.block _ (block_lt h.b0)).trans h.b0, (hb.block _ (block_lt h.b1)).trans h.b1, (hb.block _ (block_lt h.b2)).trans h.b2, (hb.block _ (block_lt h.b3)).trans h.b3⟩
theorem MulAt.start {w w1 : World} {F T : Nat} {r c : Int} {A : Option Addr} {n cp : Nat} {r' c' : Int} {A' : Option Addr} {n' cp' : Nat} (hT : T < w.heap.size) (hf : Fld1 w1 F T) (hr : Fr (Ft T) (mulW w (.pointer (some ⟨F, 0, none⟩)) r c A n cp r' c' A' n' cp') w1) :
    MulAt w w1 F T r c A n cp r' c' A' n' cp' :=
  ⟨(Fr.of_below (mulW_below w _ r c A n cp r' c' A' n' cp')).trans hr, hf, by have := hr.size; rw [mulW_size] at this; exact this,
    hr.row_some (mulW_0 w _ r c A n cp r' c' A' n' cp') (by show ¬ _ = T; omega), hr.row_some (mulW_1 w _ r c A n cp r' c' A' n' cp') (by show ¬ _ = T; omega),
    hr.row_some (mulW_2 w _ r c A n cp r' c' A' n' cp') (by show ¬ _ = T; omega), hr.row_some (mulW_3 w _ r c A n cp r' c' A' n' cp') (by show ¬ _ = T; omega)⟩

theorem dot_rows (D : Nat) (f g : Nat → UInt8) : dotS (rowL D f) (rowL D g) = xs D (fun j => gm (f j) (g j)) := by
  rw [dotS, rowL_length, rowL_length, Nat.min_self]
  exact xs_congr D fun j hj => by rw [rowL_getD D f j hj, rowL_getD D g j hj]

end Go.Proofs.Ytjacdabhlnfbkaa

namespace Go.Proofs.Ytjacdabhlnfbkaa
open Go.RowKit Go.Proofs
set_option linter.unusedVariables false

end Go.Proofs.Ytjacdabhlnfbkaa

namespace Go.Proofs.Ytjacdabhlnfbkaa
open Go.RowKit Go.Proofs
set_option linter.unusedVariables false

theorem step_append_any {P : Program} {ops : Array Oper} {o : Oper} {a : Act} {w : World} {K : Act → World → Prop} {Q : Exit → Act → World → Prop} {E : Prop} {B n c size : Nat} {e : TypeId} {A : Option Addr} {xs : List Value} (hgd : o.guard = none) (s x : Operand) (t tx : TypeId)
    (ho : o.op = .call { callee := .builtin .append, args := #[s, x], argTypes := #[t, tx] })
    (i : TypeInfo) (z : Value) (bytes : Nat) (ht : P.underlying t = some (.slice e)) (hi : P.info? e = some i) (hz : i.zero = some z)
    (hsize : i.size = size) (hby : i.bytes = bytes) (hzs : z.cells.size = size) (hsz : 0 < size) (hv : a.eval s = .slice A n c) (h : Own w B e size A n c xs) (hB : B ≤ w.heap.size)
    (m : Nat) (ys : List Value) (xv : Value) (hx : a.eval x = xv) (hs : Src P size tx xv m ys w) (h63 : n + m ≤ maxLen) (hbytes : (n + m) * bytes ≤ 140737488355328)
    (hk : ∀ A' c' w', Own w' B e size A' (n + m) c' (xs ++ ys) → Below B w w' → (0 < m → w'.ownsRow B e size (.slice A' (n + m) c') (n + m) (xs ++ ys)) → K (a.put o.dst (.slice A' (n + m) c')) w') :
    if Region.wanted o (yielded ops a.tmps) = true then Oper.wp P o a w K Q else E := by
  have hw : Region.wanted o (yielded ops a.tmps) = true := by simp [Region.wanted, hgd]
  rw [if_pos hw]
  exact wp_append_mine s x t tx ho i z bytes ht hi hz hsize hby hzs hsz hv h hB m ys xv hx hs h63 hbytes hk
theorem step_append_b {ops : Array Oper} {o : Oper} {a : Act} {w : World} {K : Act → World → Prop} {Q : Exit → Act → World → Prop} {E : Prop} {B n c : Nat} {A : Option Addr} {xs : List Value} (hgd : o.guard = none) (s x : Operand)
    (ho : o.op = .call { callee := .builtin .append, args := #[s, x], argTypes := #[22, 22] })
    (hv : a.eval s = .slice A n c) (h : Own w B 5 1 A n c xs) (hB : B ≤ w.heap.size)
    (A2 : Option Addr) (m c2 : Nat) (ys : List UInt8) (hx : a.eval x = .slice A2 m c2) (hs : Sl w 1 A2 m c2 (cells ys)) (h47 : n + m ≤ 140737488355328)
    (hk : ∀ A' c' w', Own w' B 5 1 A' (n + m) c' (xs ++ cells ys) → Below B w w' → (0 < m → w'.ownsRow B 5 1 (.slice A' (n + m) c') (n + m) (xs ++ cells ys)) → K (a.put o.dst (.slice A' (n + m) c')) w') :
    if Region.wanted o (yielded ops a.tmps) = true then Oper.wp Try.prog o a w K Q else E := by
  obtain ⟨i0, hi, hz0, hz1, hz2⟩ := info_parts info_u8
  exact step_append_any hgd s x _ _ ho i0 (.int .u8 0) 1 Try.underlying22 hi hz0 hz1 hz2 rfl (by decide) hv h hB m (cells ys) _ hx (hs.src Try.underlying22 (by decide) (cells_one ys)) (by unfold maxLen; omega) (by omega) hk
theorem ownsRow_new {w : World} {B n c : Nat} {e : TypeId} {A : Option Addr} {xs : List Value} (h : w.ownsRow B e 1 (.slice A n c) n xs) {b o : Nat} (hn : 0 < n) (hA : A = some ⟨b, o, none⟩) : B ≤ b := by
  obtain ⟨_, hv⟩ := h
  rcases hv with ⟨_, h0⟩ | ⟨g, cap, cur, hv, hb, _⟩
  · omega
  · injection hv with hv
    rw [hA] at hv
    injection hv with hv
    injection hv with hv _
    omega

/-- Rows of which the first k have the identity's behind them. -/
structure Half (w : World) (g n k : Nat) (S : Nat → Prop) (m : Mx) : Prop where
  row : ∃ cur, w.heap[g]? = some (.cells cur 22 (0, 0)) ∧ cur.size = n ∧
    (∀ i, i < k → i < n → ∃ A c, cur[i]? = some (.slice A (n + n) c) ∧ Sl w 1 A (n + n) c (cells (rowL (n + n) (aug n m i))) ∧ ∀ b o, 0 < n + n → A = some ⟨b, o, none⟩ → ¬ S b) ∧
    (∀ i, k ≤ i → i < n → ∃ A, cur[i]? = some (.slice A n n) ∧ Sl w 1 A n n (cells (rowL n (m i))) ∧ ∀ b o, 0 < n → A = some ⟨b, o, none⟩ → ¬ S b)
section
variable {w w' : World} {g n k : Nat} {S S' : Nat → Prop} {m : Mx}
theorem Half.start (h : RowsF w g n n S m) : Half w g n 0 S m := by
  obtain ⟨cur, hg, hn, hr⟩ := h.row
  exact ⟨cur, hg, hn, fun i hi => absurd hi (by omega), fun i _ hi => hr i hi⟩
theorem Half.done (h : Half w g n n S m) : RowsAt w g n (n + n) S (aug n m) := by
  obtain ⟨cur, hg, hn, h1, _⟩ := h.row
  exact ⟨cur, hg, hn, fun i hi => h1 i hi hi⟩
theorem Half.free (h : Half w g n k S m) (i : Nat) : w.frozen? ⟨g, i, none⟩ = false := by
  obtain ⟨cur, hg, _⟩ := h.row
  exact frozen_of_row _ _ _ _ _ hg
theorem Half.lt (h : Half w g n k S m) : g < w.heap.size := by
  obtain ⟨cur, hg, _⟩ := h.row
  exact block_lt hg
theorem Half.cell (h : Half w g n k S m) {i : Nat} (hk : k ≤ i) (hi : i < n) : ∃ A, w.cell? ⟨g, i, none⟩ = some (.slice A n n) ∧ Sl w 1 A n n (cells (rowL n (m i))) := by
  obtain ⟨cur, hg, hn, _, hr⟩ := h.row
  obtain ⟨A, h1, h2, h3⟩ := hr i hk hi
  exact ⟨A, by rw [cell_of_row _ _ _ _ _ _ hg]; exact h1, h2⟩
theorem Half.fr (h : Half w g n k S m) (hf : Fr S' w w') (hg' : ¬ S' g) (hs : ∀ b, S' b → S b) : Half w' g n k S m := by
  obtain ⟨cur, hg, hn, h1, h2⟩ := h.row
  refine ⟨cur, hf.row_some hg hg', hn, fun i hk hi => ?_, fun i hk hi => ?_⟩
  · obtain ⟨A, c, a1, a2, a3⟩ := h1 i hk hi
    exact ⟨A, c, a1, a2.fr hf fun b o hW hA hb => a3 b o hW hA (hs b hb), a3⟩
  · obtain ⟨A, a1, a2, a3⟩ := h2 i hk hi
    exact ⟨A, a1, a2.fr hf fun b o hW hA hb => a3 b o hW hA (hs b hb), a3⟩
theorem Half.later (h : Half w g n k S m) (hb : Below w.heap.size w w') : Half w' g n k S m := h.fr (S' := fun _ => False) (Fr.of_below hb) id (fun _ h => h.elim)
theorem Half.set (h : Half w g n k S m) (hS : S g) (hk : k < n) {A : Option Addr} {c : Nat} (hs : Sl w 1 A (n + n) c (cells (rowL (n + n) (aug n m k)))) (hA : ∀ b o, 0 < n + n → A = some ⟨b, o, none⟩ → ¬ S b) :
    Half (w.setCell ⟨g, k, none⟩ (.slice A (n + n) c)) g n (k + 1) S m := by
  obtain ⟨cur, hg, hn, h1, h2⟩ := h.row
  have hf : Fr (fun k => k = g) w (w.setCell ⟨g, k, none⟩ (.slice A (n + n) c)) := Fr.setCell (S := fun k => k = g) (Fr.refl _ _) (.inr rfl) _
  refine ⟨_, heap_setCell_same w g k cur _ _ hg, by rw [Array.size_setIfInBounds]; exact hn, fun i hi hin => ?_, fun i hi hin => ?_⟩
  · by_cases he : i = k
    · subst he
      exact ⟨A, c, by rw [Array.getElem?_setIfInBounds]; simp [hn, hk], hs.fr hf fun b o hW hb hk => hA b o hW hb (hk ▸ hS), hA⟩
    · obtain ⟨A', c', a1, a2, a3⟩ := h1 i (by omega) hin
      exact ⟨A', c', by rw [Array.getElem?_setIfInBounds, if_neg (fun e => he e.symm)]; exact a1, a2.fr hf fun b o hW hb hk => a3 b o hW hb (hk ▸ hS), a3⟩
  · obtain ⟨A', a1, a2, a3⟩ := h2 i (by omega) hin
    exact ⟨A', by rw [Array.getElem?_setIfInBounds, if_neg (by omega)]; exact a1, a2.fr hf fun b o hW hb hk => a3 b o hW hb (hk ▸ hS), a3⟩
end
theorem aug_rows (n : Nat) (m : Mx) (i : Nat) : rowL n (m i) ++ rowL n (one i) = rowL (n + n) (aug n m i) := rowL_append n n (m i) (one i)

end Go.Proofs.Ytjacdabhlnfbkaa

namespace Go.Proofs.Ytjacdabhlnfbkaa
open Go.RowKit Go.Proofs
set_option linter.unusedVariables false

theorem RowsF.mono {w : World} {g n W : Nat} {S S' : Nat → Prop} {M : Mx} (h : RowsF w g n W S M) (hS : ∀ b, S' b → S b) : RowsF w g n W S' M := by
  obtain ⟨cur, hg, hn, hr⟩ := h.row
  refine ⟨cur, hg, hn, fun i hi => ?_⟩
  obtain ⟨A, h1, h2, h3⟩ := hr i hi
  exact ⟨A, h1, h2, fun b o hW hA hb => h3 b o hW hA (hS b hb)⟩
/-- The world of Invert behind its boxes. -/
def invW (w : World) (r c : Int) (A : Option Addr) (n cp : Nat) : World :=
  (w.alloc (.cells #[.int .i64 r, .int .i64 c, .slice A n cp] 111)).alloc (.cells #[.int .i64 0, .int .i64 0, .slice none 0 0] 111)
theorem invW_below (w : World) (r c : Int) (A : Option Addr) (n cp : Nat) : Below w.heap.size w (invW w r c A n cp) := ((Below.refl _ _).alloc (Nat.le_refl _) _).alloc (by simp) _
/-- A world of Invert's in which the field is made and the boxes lie. -/
structure InvAt (w0 w : World) (F T : Nat) (r c : Int) (A : Option Addr) (n cp : Nat) : Prop where
  fr : Fr (Ft T) w0 w
  fld : Fld1 w F T
  size : w0.heap.size + 2 ≤ w.heap.size
  b0 : w.heap[w0.heap.size]? = some (boxM r c A n cp)
  b1 : w.heap[w0.heap.size + 1]? = some box0
theorem InvAt.later {w0 w w' : World} {F T : Nat} {r c : Int} {A : Option Addr} {n cp : Nat} (h : InvAt w0 w F T r c A n cp) (hb : Below w.heap.size w w') : InvAt w0 w' F T r c A n cp :=
  ⟨h.fr.trans (Fr.of_below hb), h.fld.later hb, Nat.le_trans h.size hb.size, (hb.block _ (block_lt h.b0)).trans h.b0, (hb.block _ (block_lt h.b1)).trans h.b1⟩
theorem InvAt.start {w w1 : World} {F T : Nat} {r c : Int} {A : Option Addr} {n cp : Nat} (hT : T < w.heap.size) (hf : Fld1 w1 F T) (hr : Fr (Ft T) (invW w r c A n cp) w1) : InvAt w w1 F T r c A n cp :=
  ⟨(Fr.of_below (invW_below w r c A n cp)).trans hr, hf, by have := hr.size; simp [invW] at this; omega, hr.row_some (alloc2_old w _ _) (by show ¬ _ = T; omega), hr.row_some (alloc2_new w _ _) (by show ¬ _ = T; omega)⟩

theorem InvAt.frNew {w0 w w' : World} {F T : Nat} {r c : Int} {A : Option Addr} {n cp : Nat} {S : Nat → Prop} (h : InvAt w0 w F T r c A n cp) (hT : T < w0.heap.size) (hF : F < w0.heap.size) (hf : Fr S w w') (hS : ∀ b, b < w0.heap.size + 2 → ¬ S b) : InvAt w0 w' F T r c A n cp :=
  ⟨h.fr.andNew hf (fun i hi hk => absurd hk (hS i (by omega))), h.fld.fr hf (hS F (by omega)) (hS T (by omega)), Nat.le_trans h.size hf.size, hf.row_some h.b0 (hS _ (by omega)), hf.row_some h.b1 (hS _ (by omega))⟩

end Go.Proofs.Ytjacdabhlnfbkaa

/-
  Contract of package frame's GetRecord. Conditions: bounds.
-/
import Derived.Test.YtpijfghklgmefaaDoorFrn
namespace Go.Proofs.YtpijfghklgmefaaDoor
open Go.RowKit Go.Proofs
set_option linter.unusedVariables false
set_option maxRecDepth 20000
set_option maxHeartbeats 3200000

/-- A change more is taken. -/
def tkC (l : List UInt8) (a : ByteArray) (s : Nat × Nat) : ChF × (Nat × Nat) :=
  let k := tkG (⟨#[]⟩ : ByteArray) (gKey l) (fun x => gtK x a) s
  let f := tkG 0 (gFate l) (fun x => decide (x ≤ 1)) k.2
  if f.1 = 1 then (⟨k.1, true, [], 0, 0⟩, f.2) else (⟨k.1, false, natsI (tkB l f.2).1.ps, (tkB l f.2).1.g, ((tkB l f.2).1.q : Int)⟩, (tkB l f.2).2)
/-- So many. -/
def tkCs (l : List UInt8) : Nat → ByteArray → Nat × Nat → List ChF × (Nat × Nat)
  | 0, _, s => ([], s)
  | k + 1, a, s => ((tkC l a s).1 :: (tkCs l k (tkC l a s).1.key (tkC l a s).2).1, (tkCs l k (tkC l a s).1.key (tkC l a s).2).2)
/-- What GetRecord answers. -/
def getR17 (l : List UInt8) : Nat × List ChF × Nat :=
  let st := tkG 0 (fun a => varR l (a : Int)) (fun _ => true) (0, 0)
  let n := tkG 0 (fun a => varR l (a : Int)) (fun x => decide (x ≤ 16)) st.2
  let r := tkCs l n.1 ⟨#[]⟩ n.2
  if endE l r.2 ≠ 0 then (0, [], endE l r.2) else (st.1, r.1, 0)
/-- A place within the text. -/
def AtOk (l : List UInt8) (s : Nat × Nat) : Prop := s.1 ≤ l.length
theorem tkG_at {α : Type} (none : α) (get : Nat → α × Nat × Nat) (right : α → Bool) (l : List UInt8) (hg : ∀ a, a ≤ l.length → (get a).2.2 = 0 → (get a).2.1 ≤ l.length) (s : Nat × Nat) (h : AtOk l s) : AtOk l (tkG none get right s).2 := by
  unfold tkG
  split
  · exact h
  · split
    · exact h
    · rename_i h2
      split
      · exact h
      · exact hg s.1 h (Decidable.not_not.1 h2)
theorem var_le (l : List UInt8) (a : Nat) (h : (varR l (a : Int)).2.2 = 0) : (varR l (a : Int)).2.1 ≤ l.length := by
  obtain ⟨k, hk, h1, h2, _⟩ := varR_ok h
  exact h2
theorem key_le (l : List UInt8) (a : Nat) (h : (gKey l a).2.2 = 0) : (gKey l a).2.1 ≤ l.length := by
  unfold gKey longR at h ⊢
  dsimp only at h ⊢
  split at h
  · rename_i h1; exact absurd h h1
  · rename_i h1
    rw [if_neg h1]
    split at h
    · simp at h
    · rename_i h2
      rw [if_neg h2]
      split at h
      · simp at h
      · rename_i h3
        rw [if_neg h3]
        have := var_le l a (Decidable.not_not.1 h1)
        dsimp only
        omega
theorem fate_le (l : List UInt8) (a : Nat) (h : (gFate l a).2.2 = 0) : (gFate l a).2.1 ≤ l.length := by
  have := getN16_in (l := l) (at_ := (a : Int)) (m := 1) h
  show a + 1 ≤ l.length
  omega
theorem tk1_at (l : List UInt8) (most : Nat) (s : Nat × Nat) (h : AtOk l s) : AtOk l (tk1 l most s).2 := by
  unfold tk1
  split
  · exact h
  · split
    · exact h
    · rename_i h2
      split
      · exact h
      · exact var_le l s.1 (Decidable.not_not.1 h2)
theorem tkN_at (l : List UInt8) (most : Nat) : ∀ (k : Nat) (s : Nat × Nat), AtOk l s → AtOk l (tkN l most k s).2
  | 0, s, h => h
  | k + 1, s, h => tkN_at l most k _ (tk1_at l most s h)
theorem gB_le (l : List UInt8) (a : Nat) (ha : a ≤ l.length) : (gB l a).p ≤ l.length := by
  unfold gB
  dsimp only
  split
  · exact Nat.zero_le _
  · exact tkN_at l 599 _ _ (tk1_at l 400 _ (tk1_at l _ _ (tk1_at l 400 (a, 0) ha)))
theorem tkB_at (l : List UInt8) (s : Nat × Nat) (h : AtOk l s) : AtOk l (tkB l s).2 := by
  unfold tkB
  split
  · exact h
  · split
    · exact h
    · exact gB_le l s.1 h
/-- Changes that are filled in, one by one, at block C. -/
def zV : CvF := ⟨⟨⟨#[]⟩, false, [], 0, 0⟩, none, 0⟩
def FilC (w : World) (C k : Nat) (vs : List CvF) : Prop := (∃ t, w.heap[C]? = some (.cells ((vs ++ List.replicate (k - vs.length) zV).flatMap CvF.vals).toArray t (0, 0))) ∧ vs.length ≤ k
theorem flat5 (vs : List CvF) : (vs.flatMap CvF.vals).length = vs.length * 5 := by
  induction vs with
  | nil => rfl
  | cons v r ih => rw [List.flatMap_cons, List.length_append, ih, List.length_cons, Nat.add_mul]; show 5 + _ = _; omega
theorem FilC.fr {w w' : World} {C k : Nat} {vs : List CvF} {S : Nat → Prop} (h : FilC w C k vs) (hf : Fr S w w') (hS : ¬ S C) : FilC w' C k vs := by
  obtain ⟨⟨t, h1⟩, h2⟩ := h
  exact ⟨⟨t, hf.row_some h1 hS⟩, h2⟩
theorem FilC.lt {w : World} {C k : Nat} {vs : List CvF} (h : FilC w C k vs) : C < w.heap.size := by
  obtain ⟨⟨t, h1⟩, h2⟩ := h
  exact block_lt h1
theorem FilC.free {w : World} {C k : Nat} {vs : List CvF} (h : FilC w C k vs) (i : Nat) : w.frozen? ⟨C, i, none⟩ = false := by
  obtain ⟨⟨t, h1⟩, h2⟩ := h
  exact frozen_of_row _ _ _ _ _ h1
theorem FilC.open_ {w : World} {C k : Nat} {vs : List CvF} (h : FilC w C k vs) (hk : vs.length < k) : FilC w C k (vs ++ [zV]) := by
  obtain ⟨⟨t, h1⟩, h2⟩ := h
  obtain ⟨j, hj⟩ : ∃ j, k - vs.length = j + 1 := ⟨k - vs.length - 1, by omega⟩
  refine ⟨⟨t, ?_⟩, by rw [List.length_append]; simp; omega⟩
  rw [h1]
  congr 3
  rw [List.length_append, hj, show k - (vs.length + [zV].length) = j from by simp; omega, List.replicate_succ, List.append_assoc]
  rfl
theorem FilC.cell {w : World} {C k : Nat} {vs : List CvF} {i : Nat} {v : CvF} (h : FilC w C k vs) (hi : vs[i]? = some v) {j : Nat} {u : Value} (hu : v.vals[j]? = some u) : w.cell? ⟨C, i * 5 + j, none⟩ = some u := by
  obtain ⟨⟨t, h1⟩, h2⟩ := h
  rw [cell_of_row _ _ _ _ _ _ h1]
  have hil := (List.getElem?_eq_some_iff.1 hi).1
  have hjl : j < 5 := (List.getElem?_eq_some_iff.1 hu).1
  have e : vs = vs.take i ++ v :: vs.drop (i + 1) := by
    conv => lhs; rw [← List.take_append_drop i vs, List.drop_eq_getElem_cons hil]
    rw [(List.getElem?_eq_some_iff.1 hi).2]
  have hl : ((vs.take i).flatMap CvF.vals).length = i * 5 := by rw [flat5, List.length_take, Nat.min_eq_left (by omega)]
  rw [List.getElem?_toArray]
  conv => lhs; rw [e]
  rw [List.append_assoc, List.flatMap_append, List.cons_append, List.flatMap_cons, List.getElem?_append_right (by omega), hl, show i * 5 + j - i * 5 = j from by omega, List.getElem?_append_left (by show j < 5; exact hjl)]
  exact hu
theorem FilC.set {w : World} {C k : Nat} {vs : List CvF} {v v' : CvF} (h : FilC w C k (vs ++ [v])) {j : Nat} {u : Value} (hj : j < 5) (hv : v.vals.set j u = v'.vals) : FilC (w.setCell ⟨C, vs.length * 5 + j, none⟩ u) C k (vs ++ [v']) := by
  obtain ⟨⟨t, h1⟩, h2⟩ := h
  refine ⟨⟨t, ?_⟩, by simpa using h2⟩
  have h3 := heap_setCell_same w C (vs.length * 5 + j) _ _ u h1
  rw [h3]
  congr 2
  rw [List.setIfInBounds_toArray]
  congr 1
  have hl : (vs.flatMap CvF.vals).length = vs.length * 5 := flat5 vs
  have e : (vs ++ [v]).length = (vs ++ [v']).length := by simp
  rw [e]
  simp only [List.flatMap_append, List.flatMap_cons, List.flatMap_nil, List.append_nil, List.append_assoc]
  rw [List.set_append_right _ _ (by omega), hl, show vs.length * 5 + j - vs.length * 5 = j from by omega, List.set_append_left _ _ (by show j < 5; exact hj), hv]
theorem FilC.chs {w : World} {C k : Nat} {vs : List CvF} (h : FilC w C k vs) (hl : vs.length = k) (hk : k ≤ 1000) (hok : ∀ x ∈ vs, x.Ok w) : Chs w (some ⟨C, 0, none⟩) k k vs :=
  ⟨hl, Nat.le_refl _, by unfold maxLen; omega, fun i v hv => ⟨C, 0, rfl, fun j u hu => by rw [Nat.zero_add]; exact h.cell hv hu, hok v (List.mem_of_getElem? hv)⟩⟩
theorem FilC.made (w : World) (k : Nat) (t : TypeId) : FilC (w.alloc (.cells ((List.replicate k zV).flatMap CvF.vals).toArray t)) w.heap.size k [] := ⟨⟨t, heap_alloc_new w _⟩, Nat.zero_le _⟩
theorem made_flat17 {α : Type} {f : α → List Value} {k : Nat} (h : ∀ a, (f a).length = k) (hk : 0 < k) (a : α) (z : Array Value) (hz : z.toList = f a) (n : Nat) : (madeCells z (n * k)).toList = (List.replicate n a).flatMap f := by
  have hs : z.size = k := by rw [← Array.length_toList, hz, h]
  apply List.ext_getElem?
  intro t
  by_cases ht : t < n * k
  · have e := flat_get (f := f) h (l := List.replicate n a) (i := t / k) (a := a) (by
      rw [List.getElem?_replicate, if_pos]
      exact (Nat.div_lt_iff_lt_mul hk).2 ht) (t % k) (Nat.mod_lt _ hk)
    rw [Nat.div_add_mod'] at e
    rw [e, ← hz]
    have hm : t % k < z.size := by rw [hs]; exact Nat.mod_lt _ hk
    simp [madeCells, ht, hs]
    rw [getElem!_pos z (t % k) hm, Array.getElem?_eq_getElem hm]
  · rw [List.getElem?_eq_none (by rw [Array.length_toList, size_madeCells]; omega), List.getElem?_eq_none (by rw [flat_len h, List.length_replicate]; omega)]

theorem made5 (k : Nat) : madeCells zV.vals.toArray (k * 5) = ((List.replicate k zV).flatMap CvF.vals).toArray := by
  apply Array.ext'
  rw [made_flat17 (f := CvF.vals) (fun _ => rfl) (by decide) zV zV.vals.toArray rfl k]
theorem makec_eq (k : Nat) (hk : k ≤ 1000) (w : World) :
    (Instr.makeSlice 23 (.int .u64 (k : Int)) (.int .u64 (k : Int))).run Tryd.prog w = .ok (.slice (some ⟨w.heap.size, 0, none⟩) k k) (w.alloc (.cells ((List.replicate k zV).flatMap CvF.vals).toArray 57)) := by
  obtain ⟨i0, hi, hz0, hz1, hz2⟩ := info_parts (show (Tryd.prog.info? 57).map (fun i => (i.zero, i.size, i.bytes)) = some (some (.agg #[.string ⟨#[]⟩, .bool false, .slice none 0 0, .int .u64 0, .int .i64 0]), 5, 64) by kernel_rfl)
  have h := run_make (P := Tryd.prog) w 23 57 i0 _ Tryd.underlying23 hi hz0 .u64 .u64 (k : Int) (k : Int) (by omega) (by omega) (by rw [hz2]; omega) (by omega)
  rw [hz1, Int.toNat_natCast, show (Value.agg #[.string ⟨#[]⟩, .bool false, .slice none 0 0, .int .u64 0, .int .i64 0]).cells = zV.vals.toArray from by simp [Value.cells, CvF.vals, zV], made5] at h
  exact h
theorem one_re (A : Option Addr) (n c : Nat) (g : Int) : (#[.int .u64 g, .slice A n c] : Array Value).all (·.oneCell') = true := all_oneCell_toArray (cs := [.int .u64 g, .slice A n c]) (fun u hu => by simp only [List.mem_cons, List.not_mem_nil, or_false] at hu; rcases hu with rfl | rfl <;> rfl)
theorem tkG_ok {α : Type} {none : α} {get : Nat → α × Nat × Nat} {right : α → Bool} {s : Nat × Nat} (h : right none = true) : right (tkG none get right s).1 = true := by
  unfold tkG
  split
  · exact h
  · split
    · exact h
    · split
      · exact h
      · rename_i h3
        simpa using h3
theorem ReB.fr {w w' : World} {B st n c : Nat} {A : Option Addr} {S : Nat → Prop} (h : ReB w B st A n c) (hf : Fr S w w') (hS : ¬ S B) : ReB w' B st A n c := hf.row_some h hS
theorem ReB.free {w : World} {B st n c : Nat} {A : Option Addr} (h : ReB w B st A n c) (i : Nat) : w.frozen? ⟨B, i, none⟩ = false := frozen_of_row _ _ _ _ _ h
theorem ReB.set0 {w : World} {B st n c : Nat} {A : Option Addr} (h : ReB w B st A n c) (x : Nat) : ReB (w.setCell ⟨B, 0, none⟩ (.int .u64 (x : Int))) B x A n c := heap_setCell_same w B 0 _ _ _ h
theorem ReB.set1 {w : World} {B st n c : Nat} {A : Option Addr} (h : ReB w B st A n c) (A' : Option Addr) (n' c' : Nat) : ReB (w.setCell ⟨B, 1, none⟩ (.slice A' n' c')) B st A' n' c' := heap_setCell_same w B 1 _ _ _ h
theorem var_fl (A : Option Addr) (n c : Nat) (l : List UInt8) (a : Nat) (w : World) (h : Sl w 1 A n c (cells l)) : Calls Tryd.prog 29 #[.slice A n c, .int .i64 (a : Int)] w fun e w' => e = .returned (.tuple #[.int .u64 ((varR l (a : Int)).1 : Int), .int .i64 ((varR l (a : Int)).2.1 : Int), .int .i64 ((varR l (a : Int)).2.2 : Int)]) ∧ w' = w :=
  (var_any A n c l (a : Int) w h).mono fun e w' ⟨h1, h2⟩ => ⟨h1, h2.symm⟩
/-- What the loop of GetRecord keeps. -/
structure GrS (W w : World) (Q R B V C m st : Nat) (A : Option Addr) (n c : Nat) (l : List UInt8) (a : ByteArray) (s : Nat × Nat) (vs : List CvF) : Prop where
  bel : Below W.heap.size W w
  q : ReB w Q 0 none 0 0
  rd : Rdg w R A n c l s
  at_ : AtOk l s
  ah : Cel w B (.string a)
  v : ReB w V st (some ⟨C, 0, none⟩) m m
  fil : FilC w C m vs
  ok : ∀ x ∈ vs, x.Ok w
  new : ∀ x ∈ vs, ∀ b o, 0 < x.x.ps.length → x.A = some ⟨b, o, none⟩ → C < b
  ord : Q = W.heap.size ∧ R = W.heap.size + 1 ∧ B = W.heap.size + 1 + 1 ∧ W.heap.size + 3 ≤ V ∧ V < C
  off : ∀ b o, 0 < n → A = some ⟨b, o, none⟩ → b < W.heap.size
/-- The takers. -/
structure GrK (w : World) (R B C : Nat) (t3 g3 p3 t4 g4 p4 t5 g5 p5 : Nat) : Prop where
  k3 : Tk3 w t3 g3 p3 R (.func (.func 33) #[] #[]) (.func (.func 34) #[] #[.pointer (some ⟨B, 0, none⟩)])
  k4 : Tk3 w t4 g4 p4 R (.func (.func 35) #[] #[]) (.func (.func 36) #[] #[])
  k5 : Tk3 w t5 g5 p5 R (.func (.func 38) #[] #[]) (.func (.func 39) #[] #[])
  ne : ∀ x, x = R ∨ x = B ∨ x = C → ¬ x = t3 ∧ ¬ x = g3 ∧ ¬ x = p3 ∧ ¬ x = t4 ∧ ¬ x = g4 ∧ ¬ x = p4 ∧ ¬ x = t5 ∧ ¬ x = g5 ∧ ¬ x = p5
theorem GrK.fr {w w' : World} {R B C t3 g3 p3 t4 g4 p4 t5 g5 p5 x : Nat} (h : GrK w R B C t3 g3 p3 t4 g4 p4 t5 g5 p5) (hx : x = R ∨ x = B ∨ x = C) (hf : Fr (fun k => k = x) w w') : GrK w' R B C t3 g3 p3 t4 g4 p4 t5 g5 p5 := by
  obtain ⟨a1, a2, a3, a4, a5, a6, a7, a8, a9⟩ := h.ne x hx
  exact ⟨h.k3.fr hf (fun e => a1 e.symm) (fun e => a2 e.symm) (fun e => a3 e.symm), h.k4.fr hf (fun e => a4 e.symm) (fun e => a5 e.symm) (fun e => a6 e.symm), h.k5.fr hf (fun e => a7 e.symm) (fun e => a8 e.symm) (fun e => a9 e.symm), h.ne⟩
section
variable {W w w' : World} {Q R B V C m st n c : Nat} {A : Option Addr} {l : List UInt8} {a : ByteArray} {s s' : Nat × Nat} {vs : List CvF}
theorem CvF.Ok.frx {v : CvF} {x : Nat} (h : v.Ok w) (hf : Fr (fun k => k = x) w w') (hx : ∀ b o, 0 < v.x.ps.length → v.A = some ⟨b, o, none⟩ → ¬ b = x) : v.Ok w' := Sl.fr h hf hx
theorem GrS.frR (h : GrS W w Q R B V C m st A n c l a s vs) (hf : Fr (fun k => k = R) w w') (hr : Rdg w' R A n c l s') (hat : AtOk l s') : GrS W w' Q R B V C m st A n c l a s' vs := by
  have o := h.ord
  exact ⟨h.bel.trans (hf.below h.bel.size (fun k e => by have e : k = R := e; omega)), h.q.fr hf (by show ¬ Q = R; omega), hr, hat, h.ah.fr hf (by show ¬ B = R; omega), h.v.fr hf (by show ¬ V = R; omega), h.fil.fr hf (by show ¬ C = R; omega), fun x hx => (h.ok x hx).frx hf (fun b o' hn e => by have := h.new x hx b o' hn e; omega), h.new, o, h.off⟩
theorem GrS.setB (h : GrS W w Q R B V C m st A n c l a s vs) (a' : ByteArray) : GrS W (w.setCell ⟨B, 0, none⟩ (.string a')) Q R B V C m st A n c l a' s vs ∧ Fr (fun k => k = B) w (w.setCell ⟨B, 0, none⟩ (.string a')) := by
  have hf : Fr (fun k => k = B) w (w.setCell ⟨B, 0, none⟩ (.string a')) := (Fr.refl (fun k => k = B) _).setCell (p := ⟨B, 0, none⟩) (.inr rfl) _
  have o := h.ord
  exact ⟨⟨h.bel.trans (hf.below h.bel.size (fun k e => by have e : k = B := e; omega)), h.q.fr hf (by show ¬ Q = B; omega), h.rd.fr hf (by show ¬ R = B; omega) (fun b o' hn e => by have := h.off b o' hn e; show ¬ b = B; omega), h.at_, h.ah.set _, h.v.fr hf (by show ¬ V = B; omega), h.fil.fr hf (by show ¬ C = B; omega), fun x hx => (h.ok x hx).frx hf (fun b o' hn e => by have := h.new x hx b o' hn e; omega), h.new, o, h.off⟩, hf⟩
theorem GrS.setC (h : GrS W w Q R B V C m st A n c l a s vs) (i : Nat) (u : Value) {vs' : List CvF} (hfil : FilC (w.setCell ⟨C, i, none⟩ u) C m vs') (hok : ∀ x ∈ vs', x.Ok w) (hnew : ∀ x ∈ vs', ∀ b o, 0 < x.x.ps.length → x.A = some ⟨b, o, none⟩ → C < b) : GrS W (w.setCell ⟨C, i, none⟩ u) Q R B V C m st A n c l a s vs' ∧ Fr (fun k => k = C) w (w.setCell ⟨C, i, none⟩ u) := by
  have hf : Fr (fun k => k = C) w (w.setCell ⟨C, i, none⟩ u) := (Fr.refl (fun k => k = C) _).setCell (p := ⟨C, i, none⟩) (.inr rfl) _
  have o := h.ord
  exact ⟨⟨h.bel.trans (hf.below h.bel.size (fun k e => by have e : k = C := e; omega)), h.q.fr hf (by show ¬ Q = C; omega), h.rd.fr hf (by show ¬ R = C; omega) (fun b o' hn e => by have := h.off b o' hn e; show ¬ b = C; omega), h.at_, h.ah.fr hf (by show ¬ B = C; omega), h.v.fr hf (by show ¬ V = C; omega), hfil, fun x hx => (hok x hx).frx hf (fun b o' hn e => by have := hnew x hx b o' hn e; omega), hnew, o, h.off⟩, hf⟩
theorem GrS.open_ (h : GrS W w Q R B V C m st A n c l a s vs) (hm : vs.length < m) : GrS W w Q R B V C m st A n c l a s (vs ++ [zV]) :=
  ⟨h.bel, h.q, h.rd, h.at_, h.ah, h.v, h.fil.open_ hm, fun x hx => by
    rcases List.mem_append.1 hx with hx | hx
    · exact h.ok x hx
    · rw [List.mem_singleton.1 hx]; exact Sl.nil w 1 0 (by decide), fun x hx b o h0 e => by
    rcases List.mem_append.1 hx with hx | hx
    · exact h.new x hx b o h0 e
    · rw [List.mem_singleton.1 hx] at h0; exact absurd h0 (Nat.lt_irrefl 0), h.ord, h.off⟩
theorem GrS.put {v v' : CvF} (h : GrS W w Q R B V C m st A n c l a s (vs ++ [v])) {i : Nat} (hl : vs.length = i) {j : Nat} (hj : j < 5) (u : Value) (hv : v.vals.set j u = v'.vals) (hok : v'.Ok w) (hnew : ∀ b o, 0 < v'.x.ps.length → v'.A = some ⟨b, o, none⟩ → C < b) :
    GrS W (w.setCell ⟨C, i * 5 + j, none⟩ u) Q R B V C m st A n c l a s (vs ++ [v']) ∧ Fr (fun k => k = C) w (w.setCell ⟨C, i * 5 + j, none⟩ u) := by
  subst hl
  refine h.setC _ u (h.fil.set hj hv) (fun x hx => ?_) (fun x hx b o h0 e => ?_)
  · rcases List.mem_append.1 hx with hx | hx
    · exact h.ok x (List.mem_append.2 (.inl hx))
    · rw [List.mem_singleton.1 hx]; exact hok
  · rcases List.mem_append.1 hx with hx | hx
    · exact h.new x (List.mem_append.2 (.inl hx)) b o h0 e
    · rw [List.mem_singleton.1 hx] at h0 e; exact hnew b o h0 e
theorem GrS.last {v : CvF} (h : GrS W w Q R B V C m st A n c l a s (vs ++ [v])) {i : Nat} (hl : vs.length = i) {j : Nat} {u : Value} (hu : v.vals[j]? = some u) : w.cell? ⟨C, i * 5 + j, none⟩ = some u := by
  subst hl
  exact h.fil.cell (i := vs.length) (by simp) hu
end
theorem getRecord17 (A : Option Addr) (n c : Nat) (l : List UInt8) (w : World) (h : Sl w 1 A n c (cells l)) (hn : n ≤ 1000000) :
    Calls Tryd.prog 13 #[.slice A n c] w fun e w' => ∃ (CA : Option Addr) (cc : Nat) (vs : List CvF), e = .returned (.tuple #[.agg #[.int .u64 ((getR17 l).1 : Int), .slice CA vs.length cc], .int .i64 ((getR17 l).2.2 : Int)]) ∧ vs.map CvF.x = (getR17 l).2.1 ∧ Chs w' CA vs.length cc vs ∧ Below w.heap.size w w' := by
  have hln := h.len
  rw [cells_length, Nat.mul_one] at hln
  have hb0 : Below w.heap.size w (w.alloc (.cells #[.int .u64 0, .slice none 0 0] 25)) := (Below.refl _ _).alloc (Nat.le_refl _) _
  have hq0 : ReB (w.alloc (.cells #[.int .u64 0, .slice none 0 0] 25)) w.heap.size 0 none 0 0 := heap_alloc_new w _
  obtain ⟨w0, hw0⟩ : ∃ x, x = w.alloc (.cells #[.int .u64 0, .slice none 0 0] 25) := ⟨_, rfl⟩
  rw [← hw0] at hb0 hq0
  have HW0 := Lib.hid hw0
  have hr1 : Rdg (w0.alloc (.cells #[.slice A n c, .int .i64 0, .int .i64 0] 68)) w0.heap.size A n c l (0, 0) := ⟨⟨_, heap_alloc_new w0 _⟩, h.below (hb0.trans (((Below.refl _ _).alloc (Nat.le_refl _) _).mono hb0.size)) (Nat.le_refl _), fun b o hn e => by have := h.lt (by decide) hn e; have := hb0.size; omega⟩
  have hb1 : Below w0.heap.size w0 (w0.alloc (.cells #[.slice A n c, .int .i64 0, .int .i64 0] 68)) := (Below.refl _ _).alloc (Nat.le_refl _) _
  obtain ⟨w1, hw1⟩ : ∃ x, x = w0.alloc (.cells #[.slice A n c, .int .i64 0, .int .i64 0] 68) := ⟨_, rfl⟩
  rw [← hw1] at hr1 hb1
  have HW1 := Lib.hid hw1
  obtain ⟨Q, hQ⟩ : ∃ Q, Q = w.heap.size := ⟨_, rfl⟩
  obtain ⟨R, hR⟩ : ∃ R, R = w0.heap.size := ⟨_, rfl⟩
  obtain ⟨B, hB⟩ : ∃ B, B = w1.heap.size := ⟨_, rfl⟩
  have hzR : w0.heap.size = w.heap.size + 1 := by rw [hw0]; simp
  have hzB : w1.heap.size = w0.heap.size + 1 := by rw [hw1]; simp
  have hb2 : Below w1.heap.size w1 (w1.alloc (.cells #[.string ⟨#[]⟩] 9)) := (Below.refl _ _).alloc (Nat.le_refl _) _
  have hc2 := Cel.new w1 (.string ⟨#[]⟩) 9
  obtain ⟨w2, hw2⟩ : ∃ x, x = w1.alloc (.cells #[.string ⟨#[]⟩] 9) := ⟨_, rfl⟩
  rw [← hw2] at hb2 hc2
  have HW2 := Lib.hid hw2
  rw [← hR] at hr1
  rw [← hQ] at hq0
  rw [← hB] at hc2
  have RD := Lib.hid (hr1.later hb2)
  have QD := Lib.hid (show ReB w2 Q 0 none 0 0 from (hq0.later hb1).later hb2)
  have AD := Lib.hid hc2
  have BL := Lib.hid (hb0.trans ((hb1.trans (hb2.mono hb1.size)).mono hb0.size))
  have NS := Lib.hid (show Q = w.heap.size ∧ R = w.heap.size + 1 ∧ B = w.heap.size + 1 + 1 ∧ w2.heap.size = w.heap.size + 1 + 1 + 1 from ⟨hQ, by omega, by omega, by rw [hw2]; simp; omega⟩)
  have LN := Lib.hid hln
  have HS := Lib.hid h
  clear hb0 hq0 hw0 hr1 hb1 hw1 hb2 hc2 hw2 hzR hzB h hln
  have s0 := AD.out.cell
  have s1 := AD.out.free
  rw [hB] at s0 s1
  go_enter Tryd.func13, Tryd.ntmps13
  go_wp2_with (first | (rw [← HW0.out]) | (rw [← HW1.out]) | (rw [← HW2.out]))
  rw [← hQ, ← hR, ← hB]
  clear hQ hR hB s0 s1
  have hsf : Fr (fun k => k = B) w2 (w2.setCell ⟨B, 0, none⟩ (.string ⟨#[]⟩)) := (Fr.refl (fun k => k = B) _).setCell (p := ⟨B, 0, none⟩) (.inr rfl) _
  have AD := Lib.hid (AD.out.set (.string ⟨#[]⟩))
  have RD := Lib.hid (RD.out.fr hsf (by have := NS.out; show ¬ R = B; omega) (fun b o hn e => by have := HS.out.lt (by decide) hn e; have := NS.out; show ¬ b = B; omega))
  have QD := Lib.hid (show ReB (w2.setCell ⟨B, 0, none⟩ (.string ⟨#[]⟩)) Q 0 none 0 0 from hsf.row_some QD.out (by have := NS.out; show ¬ Q = B; omega))
  have BL := Lib.hid (BL.out.trans (hsf.below (by have := NS.out; omega) (fun k h => by have h : k = B := h; have := NS.out; omega)))
  have NS := Lib.hid (show Q = w.heap.size ∧ R = w.heap.size + 1 ∧ B = w.heap.size + 1 + 1 ∧ (w2.setCell ⟨B, 0, none⟩ (.string ⟨#[]⟩)).heap.size = w.heap.size + 1 + 1 + 1 from by have := NS.out; simp; omega)
  clear hsf
  obtain ⟨w3, hw3⟩ : ∃ x, x = w2.setCell ⟨B, 0, none⟩ (.string ⟨#[]⟩) := ⟨_, rfl⟩
  rw [← hw3] at AD RD QD BL NS ⊢
  clear hw3
  have hlt : w.heap.size + 3 ≤ w3.heap.size := by have := NS.out; omega
  have LT := Lib.hid hlt
  have NQ := Lib.hid (show Q = w.heap.size ∧ R = w.heap.size + 1 ∧ B = w.heap.size + 1 + 1 from by have := NS.out; omega)
  refine (taker64_any R 29 30 w3 (by have := NS.out; omega)).mono ?_; rintro e w4 ⟨t1, g1, p1, rfl, hk1, hb4, l1⟩
  have K1 := Lib.hid hk1
  have B4 := Lib.hid (show Below w3.heap.size w3 w4 from hb4)
  have L1 := Lib.hid l1
  clear hk1 hb4 l1
  go_wp2_with fail
  refine (taker64_any R 29 31 w4 (by have := NS.out; have := B4.out.size; omega)).mono ?_; rintro e w5 ⟨t2, g2, p2, rfl, hk1, hb4, l1⟩
  have K1 := Lib.hid (K1.out.later hb4)
  have K2 := Lib.hid hk1
  have B5 := Lib.hid (B4.out.trans (hb4.mono B4.out.size))
  have L2 := Lib.hid (show w3.heap.size ≤ t2 ∧ w3.heap.size ≤ g2 ∧ w3.heap.size ≤ p2 from by have := B4.out.size; omega)
  clear hk1 hb4 l1 B4
  go_wp2_with fail
  refine (takerS_any R 33 34 (.pointer (some ⟨B, 0, none⟩)) w5 (by have := NS.out; have := B5.out.size; omega)).mono ?_; rintro e w6 ⟨t3, g3, p3, rfl, hk1, hb4, l1⟩
  have K1 := Lib.hid (K1.out.later hb4)
  have K2 := Lib.hid (K2.out.later hb4)
  have K3 := Lib.hid hk1
  have B6 := Lib.hid (B5.out.trans (hb4.mono B5.out.size))
  have L3 := Lib.hid (show w3.heap.size ≤ t3 ∧ w3.heap.size ≤ g3 ∧ w3.heap.size ≤ p3 from by have := B5.out.size; omega)
  clear hk1 hb4 l1 B5
  go_wp2_with fail
  refine (taker64_any R 35 36 w6 (by have := NS.out; have := B6.out.size; omega)).mono ?_; rintro e w7 ⟨t4, g4, p4, rfl, hk1, hb4, l1⟩
  have K1 := Lib.hid (K1.out.later hb4)
  have K2 := Lib.hid (K2.out.later hb4)
  have K3 := Lib.hid (K3.out.later hb4)
  have K4 := Lib.hid hk1
  have B7 := Lib.hid (B6.out.trans (hb4.mono B6.out.size))
  have L4 := Lib.hid (show w3.heap.size ≤ t4 ∧ w3.heap.size ≤ g4 ∧ w3.heap.size ≤ p4 from by have := B6.out.size; omega)
  clear hk1 hb4 l1 B6
  go_wp2_with fail
  refine (takerB_any R 38 39 w7 (by have := NS.out; have := B7.out.size; omega)).mono ?_; rintro e w8 ⟨t5, g5, p5, rfl, hk1, hb4, l1⟩
  have K1 := Lib.hid (K1.out.later hb4)
  have K2 := Lib.hid (K2.out.later hb4)
  have K3 := Lib.hid (K3.out.later hb4)
  have K4 := Lib.hid (K4.out.later hb4)
  have K5 := Lib.hid hk1
  have B8 := Lib.hid (B7.out.trans (hb4.mono B7.out.size))
  have L5 := Lib.hid (show w3.heap.size ≤ t5 ∧ w3.heap.size ≤ g5 ∧ w3.heap.size ≤ p5 from by have := B7.out.size; omega)
  clear hk1 hb4 l1 B7
  have AD := Lib.hid (AD.out.later B8.out)
  have RD := Lib.hid (RD.out.later B8.out)
  have QD := Lib.hid (QD.out.later B8.out)
  have BL := Lib.hid (BL.out.trans (B8.out.mono BL.out.size))
  have hba : Below w8.heap.size w8 (w8.alloc (.cells #[.int .u64 0, .slice none 0 0] 25)) := (Below.refl _ _).alloc (Nat.le_refl _) _
  have hra : ReB (w8.alloc (.cells #[.int .u64 0, .slice none 0 0] 25)) w8.heap.size 0 none 0 0 := heap_alloc_new w8 _
  obtain ⟨w9, hw9⟩ : ∃ x, x = w8.alloc (.cells #[.int .u64 0, .slice none 0 0] 25) := ⟨_, rfl⟩
  have HW9 := Lib.hid hw9
  rw [← hw9] at hba hra
  obtain ⟨V, hV⟩ : ∃ V, V = w8.heap.size := ⟨_, rfl⟩
  rw [← hV] at hra
  have hVl : w3.heap.size ≤ V := by rw [hV]; exact B8.out.size
  have NTV0 := Lib.hid (show ¬ t2 = V ∧ ¬ g2 = V ∧ ¬ p2 = V ∧ ¬ t3 = V ∧ ¬ g3 = V ∧ ¬ p3 = V ∧ ¬ t4 = V ∧ ¬ g4 = V ∧ ¬ p4 = V ∧ ¬ t5 = V ∧ ¬ g5 = V ∧ ¬ p5 = V from by have := K2.out.t.lt; have := K2.out.g.lt; have := K2.out.p.lt; have := K3.out.t.lt; have := K3.out.g.lt; have := K3.out.p.lt; have := K4.out.t.lt; have := K4.out.g.lt; have := K4.out.p.lt; have := K5.out.t.lt; have := K5.out.g.lt; have := K5.out.p.lt; omega)
  have VL := Lib.hid hVl
  have K1 := Lib.hid (K1.out.later hba)
  have K2 := Lib.hid (K2.out.later hba)
  have K3 := Lib.hid (K3.out.later hba)
  have K4 := Lib.hid (K4.out.later hba)
  have K5 := Lib.hid (K5.out.later hba)
  have AD := Lib.hid (AD.out.later hba)
  have RD := Lib.hid (RD.out.later hba)
  have QD := Lib.hid (QD.out.later hba)
  have BL := Lib.hid (BL.out.trans (hba.mono BL.out.size))
  have VD := Lib.hid hra
  have enV := enters_of Tryd.func29 (by kernel_rfl) rfl
  have enA := enters_of Tryd.func30 (by kernel_rfl) rfl
  have en1 := enters_of Tryd.func31 (by kernel_rfl) rfl
  have EN := Lib.hid (And.intro enV (And.intro enA en1))
  obtain ⟨st, hst⟩ : ∃ x, x = tkG 0 (fun a => varR l (a : Int)) (fun _ => true) (0, 0) := ⟨_, rfl⟩
  have hca := ftake64 _ _ enV enA (fun a => varR l (a : Int)) (fun _ => true) R t1 g1 p1 A n c l (0, 0) w9 RD.out K1.out (fun w' hs => var_fl A n c l 0 w' hs) (fun x w' => any64_any (x : Int) w')
  rw [← hst] at hca
  have STX := Lib.hid hst
  clear hba hra hw9 hVl enV enA en1 hst
  go_wp2_with (rw [← HW9.out])
  refine hca.mono ?_; clear hca; rintro e wa ⟨rfl, hrd, hf⟩
  rw [← hV]
  clear hV
  have NR := Lib.hid (show ¬ Q = R ∧ ¬ B = R ∧ ¬ V = R from by have := NQ.out; have := VL.out; have := LT.out; omega)
  have RD := Lib.hid hrd
  have K2 := Lib.hid (K2.out.frR hf)
  have K3 := Lib.hid (K3.out.frR hf)
  have K4 := Lib.hid (K4.out.frR hf)
  have K5 := Lib.hid (K5.out.frR hf)
  have AD := Lib.hid (AD.out.fr hf NR.out.2.1)
  have QD := Lib.hid (QD.out.fr hf NR.out.1)
  have BL := Lib.hid (BL.out.trans (hf.below BL.out.size (fun k h => by have h : k = R := h; have := NQ.out; omega)))
  have VDa := VD.out.fr hf NR.out.2.2
  have c0 := VDa.c0
  have f0 := VDa.free 0
  have hfV : Fr (fun k => k = V) wa (wa.setCell ⟨V, 0, none⟩ (.int .u64 (st.1 : Int))) := (Fr.refl (fun k => k = V) _).setCell (p := ⟨V, 0, none⟩) (.inr rfl) _
  have hVD := VDa.set0 st.1
  obtain ⟨wb, hwb⟩ : ∃ x, x = wa.setCell ⟨V, 0, none⟩ (.int .u64 (st.1 : Int)) := ⟨_, rfl⟩
  have HWB := Lib.hid hwb
  rw [← hwb] at hfV hVD
  have NV := Lib.hid (show ¬ Q = V ∧ ¬ B = V ∧ ¬ R = V ∧ w3.heap.size ≤ V from by have := NQ.out; have := VL.out; have := LT.out; omega)
  have VD := Lib.hid hVD
  have RD := Lib.hid (RD.out.fr hfV NV.out.2.2.1 (fun b o hn e => by have := HS.out.lt (by decide) hn e; have := NV.out; have := LT.out; show ¬ b = V; omega))
  have NTV := Lib.hid (show ¬ t2 = V ∧ ¬ g2 = V ∧ ¬ p2 = V ∧ ¬ t3 = V ∧ ¬ g3 = V ∧ ¬ p3 = V ∧ ¬ t4 = V ∧ ¬ g4 = V ∧ ¬ p4 = V ∧ ¬ t5 = V ∧ ¬ g5 = V ∧ ¬ p5 = V from NTV0.out)
  have K2 := Lib.hid (K2.out.fr hfV NTV.out.1 NTV.out.2.1 NTV.out.2.2.1)
  have K3 := Lib.hid (K3.out.fr hfV NTV.out.2.2.2.1 NTV.out.2.2.2.2.1 NTV.out.2.2.2.2.2.1)
  have K4 := Lib.hid (K4.out.fr hfV NTV.out.2.2.2.2.2.2.1 NTV.out.2.2.2.2.2.2.2.1 NTV.out.2.2.2.2.2.2.2.2.1)
  have K5 := Lib.hid (K5.out.fr hfV NTV.out.2.2.2.2.2.2.2.2.2.1 NTV.out.2.2.2.2.2.2.2.2.2.2.1 NTV.out.2.2.2.2.2.2.2.2.2.2.2)
  have AD := Lib.hid (AD.out.fr hfV NV.out.2.1)
  have QD := Lib.hid (QD.out.fr hfV NV.out.1)
  have BL := Lib.hid (BL.out.trans (hfV.below BL.out.size (fun k h => by have h : k = V := h; have := NV.out; have := LT.out; omega)))
  obtain ⟨nn, hnn⟩ : ∃ x, x = tkG 0 (fun a => varR l (a : Int)) (fun x => decide (x ≤ 16)) st.2 := ⟨_, rfl⟩
  have hm16 : nn.1 ≤ 16 := by
    have := tkG_ok (none := 0) (get := fun a => varR l (a : Int)) (right := fun x => decide (x ≤ 16)) (s := st.2) (by decide)
    rw [← hnn] at this
    exact of_decide_eq_true this
  have hca := ftake64 _ _ EN.out.1 EN.out.2.2 (fun a => varR l (a : Int)) (fun x => decide (x ≤ 16)) R t2 g2 p2 A n c l st.2 wb RD.out K2.out (fun w' hs => var_fl A n c l st.2.1 w' hs) (fun x w' => rec1_any x w')
  rw [← hnn] at hca
  have NNX := Lib.hid hnn
  have M16 := Lib.hid hm16
  have hmk := fun W => makec_eq nn.1 (by omega) W
  clear hrd hf VDa hfV hVD hwb hnn
  go_wp2_with (rw [← HWB.out])
  refine hca.mono ?_; clear hca; rintro e wc ⟨rfl, hrd, hf⟩
  have RD := Lib.hid hrd
  have K3 := Lib.hid (K3.out.frR hf)
  have K4 := Lib.hid (K4.out.frR hf)
  have K5 := Lib.hid (K5.out.frR hf)
  have AD := Lib.hid (AD.out.fr hf NR.out.2.1)
  have QD := Lib.hid (QD.out.fr hf NR.out.1)
  have BL := Lib.hid (BL.out.trans (hf.below BL.out.size (fun k h => by have h : k = R := h; have := NQ.out; omega)))
  have VD := Lib.hid (VD.out.fr hf NR.out.2.2)
  obtain ⟨m, hm⟩ : ∃ m, m = nn.1 := ⟨_, rfl⟩
  rw [← hm] at hm16 hmk ⊢
  have HM := Lib.hid hm
  have hba : Below wc.heap.size wc (wc.alloc (.cells ((List.replicate m zV).flatMap CvF.vals).toArray 57)) := (Below.refl _ _).alloc (Nat.le_refl _) _
  have hfi := FilC.made wc m 57
  obtain ⟨wd, hwd⟩ : ∃ x, x = wc.alloc (.cells ((List.replicate m zV).flatMap CvF.vals).toArray 57) := ⟨_, rfl⟩
  have HWD := Lib.hid hwd
  rw [← hwd] at hba hfi
  obtain ⟨C, hC⟩ : ∃ C, C = wc.heap.size := ⟨_, rfl⟩
  rw [← hC] at hfi
  have NC := Lib.hid (show V < C ∧ t3 < C ∧ g3 < C ∧ p3 < C ∧ t4 < C ∧ g4 < C ∧ p4 < C ∧ t5 < C ∧ g5 < C ∧ p5 < C from by
    have h1 := block_lt VD.out
    rw [hC]
    exact ⟨h1, K3.out.t.lt, K3.out.g.lt, K3.out.p.lt, K4.out.t.lt, K4.out.g.lt, K4.out.p.lt, K5.out.t.lt, K5.out.g.lt, K5.out.p.lt⟩)
  have VDd := VD.out.later hba
  have c1 := VDd.c1
  have f1 := VDd.free 1
  have hfV : Fr (fun k => k = V) wd (wd.setCell ⟨V, 1, none⟩ (.slice (some ⟨C, 0, none⟩) m m)) := (Fr.refl (fun k => k = V) _).setCell (p := ⟨V, 1, none⟩) (.inr rfl) _
  have hVD := VDd.set1 (some ⟨C, 0, none⟩) m m
  obtain ⟨we, hwe⟩ : ∃ x, x = wd.setCell ⟨V, 1, none⟩ (.slice (some ⟨C, 0, none⟩) m m) := ⟨_, rfl⟩
  have HWE := Lib.hid hwe
  rw [← hwe] at hfV hVD
  have hBD := BL.out.trans (hba.mono BL.out.size)
  have hgs : GrS w we Q R B V C m st.1 A n c l ⟨#[]⟩ nn.2 [] := by
    refine ⟨hBD.trans (hfV.below hBD.size (fun k h => by have h : k = V := h; have := NV.out; have := LT.out; omega)), (QD.out.later hba).fr hfV NV.out.1, (RD.out.later hba).fr hfV NV.out.2.2.1 (fun b o hn e => by have := HS.out.lt (by decide) hn e; have := NV.out; have := LT.out; show ¬ b = V; omega), ?_, (AD.out.later hba).fr hfV NV.out.2.1, hVD, hfi.fr hfV (by have := NC.out; show ¬ C = V; omega), fun x hx => (by cases hx), fun x hx => (by cases hx), ?_, fun b o hn e => HS.out.lt (by decide) hn e⟩
    · rw [NNX.out]
      refine tkG_at _ _ _ l (fun a ha => var_le l a) _ ?_
      rw [STX.out]
      exact tkG_at _ _ _ l (fun a ha => var_le l a) _ (Nat.zero_le _)
    · have := NQ.out
      have := NV.out
      have := NC.out
      have := LT.out
      omega
  have hgk : GrK we R B C t3 g3 p3 t4 g4 p4 t5 g5 p5 := by
    have h1 := NTV.out
    refine ⟨(K3.out.later hba).fr hfV h1.2.2.2.1 h1.2.2.2.2.1 h1.2.2.2.2.2.1, (K4.out.later hba).fr hfV h1.2.2.2.2.2.2.1 h1.2.2.2.2.2.2.2.1 h1.2.2.2.2.2.2.2.2.1, (K5.out.later hba).fr hfV h1.2.2.2.2.2.2.2.2.2.1 h1.2.2.2.2.2.2.2.2.2.2.1 h1.2.2.2.2.2.2.2.2.2.2.2, ?_⟩
    intro x hx
    have := NC.out
    have := NQ.out
    have := L3.out
    have := L4.out
    have := L5.out
    have := LT.out
    omega
  have GS := Lib.hid hgs
  have GK := Lib.hid hgk
  clear hrd hf hba hfi hwd VDd hfV hVD hwe hBD hgs hgk hm
  go_wp2_with (first | (rw [← HWD.out]) | (rw [← HWE.out]))
  rw [← hC]
  clear hC
  rw [← HWE.out]
  clear RD QD BL VD AD K1 K2 K3 K4 K5
  go_loopw [39] (fun iv wr => ∃ (i : Nat) (s : Nat × Nat) (a : ByteArray) (vs : List CvF), iv = .int .i64 (i : Int) ∧ i ≤ m ∧ vs.length = i ∧ GrS w wr Q R B V C m st.1 A n c l a s vs ∧ GrK wr R B C t3 g3 p3 t4 g4 p4 t5 g5 p5 ∧ (vs.map CvF.x ++ (tkCs l (m - i) a s).1, (tkCs l (m - i) a s).2) = tkCs l m ⟨#[]⟩ nn.2) (fun iv _ => m - (intOf iv).toNat)
  case atStart => exact ⟨0, nn.2, ⟨#[]⟩, [], rfl, by omega, rfl, GS.out, GK.out, rfl⟩
  case round =>
    obtain ⟨i, s, a, vs, rfl, hi, hpl, hgs, hgk, hall⟩ := hrel
    have HPL := Lib.hid hpl
    clear GS GK
    by_cases hlt : i < m
    · have hii : (i : Int) < (m : Int) := by omega
      obtain ⟨k, hk2⟩ : ∃ k, m - i = k + 1 := ⟨m - i - 1, by omega⟩
      rw [hk2, tkCs] at hall
      have HK2 := Lib.hid hk2
      obtain ⟨ky, hky⟩ : ∃ x, x = tkG (⟨#[]⟩ : ByteArray) (gKey l) (fun x => gtK x a) s := ⟨_, rfl⟩
      obtain ⟨ft, hft⟩ : ∃ x, x = tkG 0 (gFate l) (fun x => decide (x ≤ 1)) ky.2 := ⟨_, rfl⟩
      have htc : tkC l a s = if ft.1 = 1 then (⟨ky.1, true, [], 0, 0⟩, ft.2) else (⟨ky.1, false, natsI (tkB l ft.2).1.ps, (tkB l ft.2).1.g, ((tkB l ft.2).1.q : Int)⟩, (tkB l ft.2).2) := by rw [hft, hky]; rfl
      have ALL := Lib.hid hall
      have HTC := Lib.hid htc
      have hgo := hgs.open_ (by omega)
      have v1 := hgo.v.c1
      have hca := ftakeS _ _ (enters_of Tryd.func33 (by kernel_rfl) rfl) (enters_of Tryd.func34 (by kernel_rfl) rfl) (.pointer (some ⟨B, 0, none⟩)) (gKey l) (fun x => gtK x a) R t3 g3 p3 A n c l s wr hgo.rd hgk.k3 (fun w' hs => getKey_any A n c l s.1 w' hs) (fun x w' hf => rec2_any x a B w' (hgo.ah.fr hf NR.out.2.1))
      rw [← hky] at hca
      have hak : AtOk l ky.2 := by rw [hky]; exact tkG_at _ _ _ l (fun a _ => key_le l a) _ hgs.at_
      have haf : AtOk l ft.2 := by rw [hft]; exact tkG_at _ _ _ l (fun a _ => fate_le l a) _ hak
      have HFT := Lib.hid hft
      have HAK := Lib.hid hak
      have HAF := Lib.hid haf
      have GS := Lib.hid hgo
      have GK := Lib.hid hgk
      clear hpl hgs hgk hall hk2 hky hft htc hgo hak haf
      go_wp2_with fail
      refine hca.mono ?_; clear hca; rintro e x1 ⟨rfl, hrd, hf⟩
      have G1 := Lib.hid (GS.out.frR hf hrd HAK.out)
      have GK := Lib.hid (GK.out.fr (.inl rfl) hf)
      have c1 := G1.out.last HPL.out (j := 0) rfl
      rw [Nat.add_zero] at c1
      have f1 := G1.out.fil.free (i * 5)
      have hp2 := G1.out.put HPL.out (j := 0) (by decide) (.string ky.1) (v' := ⟨⟨ky.1, false, [], 0, 0⟩, none, 0⟩) rfl (Sl.nil _ 1 0 (by decide)) (fun b o h0 => absurd h0 (Nat.lt_irrefl 0))
      rw [Nat.add_zero] at hp2
      have c2 := hp2.1.last HPL.out (j := 0) rfl
      rw [Nat.add_zero] at c2
      have b2 := hp2.1.ah.cell
      have e2 := hp2.1.ah.free
      have hp3 := hp2.1.setB ky.1
      have G3 := Lib.hid hp3.1
      have GK := Lib.hid ((GK.out.fr (.inr (.inr rfl)) hp2.2).fr (.inr (.inl rfl)) hp3.2)
      obtain ⟨x3, hx3⟩ : ∃ x, x = (x1.setCell ⟨C, i * 5, none⟩ (.string ky.1)).setCell ⟨B, 0, none⟩ (.string ky.1) := ⟨_, rfl⟩
      have HX3 := Lib.hid hx3
      rw [← hx3] at G3 GK
      clear hrd hf hp2 hp3 hx3 v1
      have hca := ftake64 _ _ (enters_of Tryd.func35 (by kernel_rfl) rfl) (enters_of Tryd.func36 (by kernel_rfl) rfl) (gFate l) (fun x => decide (x ≤ 1)) R t4 g4 p4 A n c l ky.2 x3 G3.out.rd GK.out.k4 (fun w' hs => getFate_any A n c l ky.2.1 (by have := HAK.out; unfold AtOk at this; have := LN.out; omega) w' hs) (fun x w' => rec3_any x w')
      rw [← HFT.out] at hca
      go_wp2_with (rw [← HX3.out])
      refine hca.mono ?_; clear hca c1 f1 c2 b2 e2; rintro e x4 ⟨rfl, hrd, hf⟩
      have G4 := Lib.hid (G3.out.frR hf hrd HAF.out)
      have GK := Lib.hid (GK.out.fr (.inl rfl) hf)
      have c1 := G4.out.last HPL.out (j := 1) rfl
      have f1 := G4.out.fil.free (i * 5 + 1)
      clear hrd hf
      by_cases hft1 : ft.1 = 1
      · have q1 : ((ft.1 : Int) == 1) = true := by rw [hft1]; rfl
        have hp2 := G4.out.put HPL.out (j := 1) (by decide) (.bool true) (v' := ⟨⟨ky.1, true, [], 0, 0⟩, none, 0⟩) rfl (Sl.nil _ 1 0 (by decide)) (fun b o h0 => absurd h0 (Nat.lt_irrefl 0))
        have c2 := hp2.1.last HPL.out (j := 1) rfl
        have G5 := Lib.hid hp2.1
        have GK := Lib.hid (GK.out.fr (.inr (.inr rfl)) hp2.2)
        have htc := HTC.out
        rw [if_pos hft1] at htc
        have TC := Lib.hid htc
        clear hp2 htc hft1
        go_wp2_with fail
        go_roundw
        case rel =>
          refine ⟨i + 1, ft.2, ky.1, vs ++ [⟨⟨ky.1, true, [], 0, 0⟩, none, 0⟩], by go_num, by omega, by rw [List.length_append, HPL.out]; rfl, G5.out, GK.out, ?_⟩
          have h1 := ALL.out
          rw [TC.out] at h1
          rw [show m - (i + 1) = k from by have := HK2.out; omega, List.map_append, List.append_assoc]
          exact h1
        case measure => simp [intOf]; omega
      · have q1 : ((ft.1 : Int) == 1) = false := by rw [beq_eq_false_iff_ne]; omega
        have hp2 := G4.out.put HPL.out (j := 1) (by decide) (.bool false) (v' := ⟨⟨ky.1, false, [], 0, 0⟩, none, 0⟩) rfl (Sl.nil _ 1 0 (by decide)) (fun b o h0 => absurd h0 (Nat.lt_irrefl 0))
        have c2 := hp2.1.last HPL.out (j := 1) rfl
        have G5 := Lib.hid hp2.1
        have GK := Lib.hid (GK.out.fr (.inr (.inr rfl)) hp2.2)
        have htc := HTC.out
        rw [if_neg hft1] at htc
        have TC := Lib.hid htc
        obtain ⟨x5, hx5⟩ : ∃ x, x = x4.setCell ⟨C, i * 5 + 1, none⟩ (.bool false) := ⟨_, rfl⟩
        have HX5 := Lib.hid hx5
        rw [← hx5] at G5 GK c2
        have hca := ftakeB R t5 g5 p5 A n c l ft.2 x5 G5.out.rd GK.out.k5
        obtain ⟨bl, hbl⟩ : ∃ x, x = tkB l ft.2 := ⟨_, rfl⟩
        have HAB := Lib.hid (show AtOk l bl.2 from by rw [hbl]; exact tkB_at l _ HAF.out)
        rw [← hbl] at hca TC
        clear hp2 htc hft1 hx5 hbl
        go_wp2_with (rw [← HX5.out])
        refine hca.mono ?_; clear hca; rintro e x6 ⟨PA, pc, rfl, hs6, hrd, hf, hnw⟩
        have G6 := Lib.hid (G5.out.frR hf hrd HAB.out)
        have GK := Lib.hid (GK.out.fr (.inl rfl) hf)
        have S6 := Lib.hid hs6
        have NW := Lib.hid (show ∀ b o, 0 < bl.1.ps.length → PA = some ⟨b, o, none⟩ → C < b from fun b o hn e => by have := hnw b o hn e; have := G5.out.fil.lt; omega)
        have d2 := G6.out.last HPL.out (j := 2) rfl
        have d3 := G6.out.last HPL.out (j := 3) rfl
        have d4 := G6.out.last HPL.out (j := 4) rfl
        have f2 := G6.out.fil.free (i * 5 + 2)
        have f3 := G6.out.fil.free (i * 5 + 3)
        have f4 := G6.out.fil.free (i * 5 + 4)
        clear hs6 hrd hf hnw c1 f1 c2 q1
        go_wp2_with fail
        have hln := natsI_len bl.1.ps
        have hp7 := G6.out.put HPL.out (j := 2) (by decide) (.slice PA bl.1.ps.length pc) (v' := ⟨⟨ky.1, false, natsI bl.1.ps, 0, 0⟩, PA, pc⟩) (by simp [CvF.vals, hln]) (by show Sl x6 1 PA (natsI bl.1.ps).length pc _; rw [hln]; exact S6.out) (fun b o h0 e => NW.out b o (by rw [← hln]; exact h0) e)
        have hp8 := hp7.1.put HPL.out (j := 3) (by decide) (.int .u64 (bl.1.g : Int)) (v' := ⟨⟨ky.1, false, natsI bl.1.ps, bl.1.g, 0⟩, PA, pc⟩) rfl (show Sl _ 1 PA (natsI bl.1.ps).length pc (icells (natsI bl.1.ps)) from hp7.1.ok ⟨⟨ky.1, false, natsI bl.1.ps, 0, 0⟩, PA, pc⟩ (List.mem_append.2 (.inr (List.mem_singleton.2 rfl)))) (fun b o h0 e => NW.out b o (by rw [← hln]; exact h0) e)
        have hp9 := hp8.1.put HPL.out (j := 4) (by decide) (.int .i64 (bl.1.q : Int)) (v' := ⟨⟨ky.1, false, natsI bl.1.ps, bl.1.g, (bl.1.q : Int)⟩, PA, pc⟩) rfl (show Sl _ 1 PA (natsI bl.1.ps).length pc (icells (natsI bl.1.ps)) from hp8.1.ok ⟨⟨ky.1, false, natsI bl.1.ps, bl.1.g, 0⟩, PA, pc⟩ (List.mem_append.2 (.inr (List.mem_singleton.2 rfl)))) (fun b o h0 e => NW.out b o (by rw [← hln]; exact h0) e)
        have GK := ((GK.out.fr (.inr (.inr rfl)) hp7.2).fr (.inr (.inr rfl)) hp8.2).fr (.inr (.inr rfl)) hp9.2
        go_roundw
        case rel =>
          refine ⟨i + 1, bl.2, ky.1, vs ++ [⟨⟨ky.1, false, natsI bl.1.ps, bl.1.g, (bl.1.q : Int)⟩, PA, pc⟩], by go_num, by omega, by rw [List.length_append, HPL.out]; rfl, hp9.1, GK, ?_⟩
          have h1 := ALL.out
          rw [TC.out] at h1
          rw [show m - (i + 1) = k from by have := HK2.out; omega, List.map_append, List.append_assoc]
          exact h1
        case measure => simp [intOf]; omega
    · obtain rfl : m = i := by omega
      rw [Nat.sub_self, tkCs, List.append_nil] at hall
      have hen := rend_any R A n c l s wr hgs.rd
      have hg : getR17 l = if endE l s ≠ 0 then (0, [], endE l s) else (st.1, vs.map CvF.x, 0) := by
        unfold getR17
        dsimp only
        rw [← STX.out, ← NNX.out, ← HM.out, ← hall]
      have GS := Lib.hid hgs
      have HG := Lib.hid hg
      clear hgs hgk hall hpl hg
      by_cases he : endE l s = 0
      · rw [he] at hen
        have hg := HG.out
        rw [if_neg (fun h => h he)] at hg
        have HG2 := Lib.hid hg
        clear hg he
        go_wp2_with fail
        refine hen.mono ?_; clear hen; rintro e x7 ⟨rfl, hb7⟩
        have Q7 := Lib.hid (GS.out.q.later hb7)
        have V7 := Lib.hid (GS.out.v.later hb7)
        have B7 := Lib.hid (GS.out.bel.trans (hb7.mono GS.out.bel.size))
        have F7 := Lib.hid (GS.out.fil.fr (S := fun _ => False) (Fr.of_below hb7) (fun h => h))
        have O7 := Lib.hid (show ∀ x ∈ vs, x.Ok x7 from fun x hx => (GS.out.ok x hx).below hb7)
        have hz : (Tryd.prog.info? 25).map (·.size) = some (#[.int .u64 (st.1 : Int), .slice (some ⟨C, 0, none⟩) m m] : Array Value).size := by show _ = some 2; kernel_rfl
        have ho : (#[.int .u64 (st.1 : Int), .slice (some ⟨C, 0, none⟩) m m] : Array Value).all (·.oneCell') = true := one_re _ _ _ _
        have HZ := Lib.hid hz
        have HO := Lib.hid ho
        clear hb7 hz ho
        go_wp2_with (first | (refine at_dst17 (d := 78) ?_; refine wpList_step17 (o := ⟨some 78, _, _, _, _, _⟩) (by rfl) _ _ (step_loadRe rfl rfl V7.out) ?_) | (refine at_none17 ?_; refine wpList_store_row (o := ⟨none, _, _, _, _, _⟩) rfl 25 (.tmp 2) (.tmp 78) rfl Q _ rfl rfl 25 _ Q7.out HZ.out rfl HO.out ?_))
        refine bodyPost_ret (results_cell_pair Tryd.results13 _ _ Q 25 _ (0, 0) _ rfl (setRow_heap _ _ _ _ _ _ Q7.out) Tryd.underlying25 rfl HZ.out) rfl ?_
        rw [HG2.out]
        have o := GS.out.ord
        have hfs := Fr.setRow17 (S := fun k => k = Q) (Fr.refl _ x7) (.inr rfl) #[.int .u64 (st.1 : Int), .slice (some ⟨C, 0, none⟩) m m]
        have hch := (F7.out.fr hfs (by show ¬ C = Q; omega)).chs HPL.out (by omega) (fun x hx => (O7.out x hx).frx hfs (fun b o' h0 e => by have := GS.out.new x hx b o' h0 e; omega))
        have hpl := HPL.out
        refine ⟨some ⟨C, 0, none⟩, m, vs, ?_, rfl, ?_, B7.out.trans (hfs.below B7.out.size (fun k h => by have h : k = Q := h; omega))⟩
        · rw [hpl]; rfl
        · rw [hpl]; exact hch
      · have hez : ¬ (endE l s : Int) = 0 := by omega
        have hg := HG.out
        rw [if_pos he] at hg
        have HG2 := Lib.hid hg
        clear hg he
        go_wp2_with fail
        refine hen.mono ?_; clear hen; rintro e x7 ⟨rfl, hb7⟩
        have Q7 := Lib.hid (GS.out.q.later hb7)
        have B7 := Lib.hid (GS.out.bel.trans (hb7.mono GS.out.bel.size))
        have hz : (Tryd.prog.info? 25).map (·.size) = some (#[.int .u64 0, .slice none 0 0] : Array Value).size := by show _ = some 2; kernel_rfl
        have ho : (#[.int .u64 0, .slice none 0 0] : Array Value).all (·.oneCell') = true := one_re _ _ _ _
        have HZ := Lib.hid hz
        have HO := Lib.hid ho
        clear hb7 hz ho
        go_wp2_with (refine at_none17 ?_; refine wpList_store_row (o := ⟨none, _, _, _, _, _⟩) rfl 25 (.tmp 2) (.tmp 76) rfl Q _ rfl rfl 25 _ Q7.out HZ.out rfl HO.out ?_)
        refine bodyPost_ret (results_cell_pair Tryd.results13 _ _ Q 25 _ (0, 0) _ rfl (setRow_heap _ _ _ _ _ _ Q7.out) Tryd.underlying25 rfl HZ.out) rfl ?_
        rw [HG2.out]
        have o := GS.out.ord
        have hfs := Fr.setRow17 (S := fun k => k = Q) (Fr.refl _ x7) (.inr rfl) #[.int .u64 0, .slice none 0 0]
        exact ⟨none, 0, [], rfl, rfl, ⟨rfl, Nat.le_refl _, by decide, fun i v hv => by simp at hv⟩, B7.out.trans (hfs.below B7.out.size (fun k h => by have h : k = Q := h; omega))⟩
end Go.Proofs.YtpijfghklgmefaaDoor

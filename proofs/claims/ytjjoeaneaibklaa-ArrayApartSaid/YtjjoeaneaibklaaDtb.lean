/-
  Where drives side by side lie in memory: a box, a slice of pointers, each drive in blocks of its own ('Ars'); one of them is turned, one more laid behind them. A slice of slices ('Ns'), one that grows by append ('Ng'). Nothing here speaks of the program's own functions. No condition.
-/
import Derived.Test.YtjjoeaneaibklaaDta
namespace Go.Proofs.Ytjjoeaneaibklaa
open Go.RowKit Go.Proofs
set_option linter.unusedVariables false

theorem Fr.intoN {S Sj : Nat → Prop} {w wr w8 : World} (h : Fr S w wr) (m : Fr Sj wr w8) (hs : ∀ b, Sj b → S b ∨ w.heap.size ≤ b) : Fr S w w8 :=
  ⟨m.os.trans h.os, m.tape.trans h.tape, m.output.trans h.output, Nat.le_trans h.size m.size, fun b hb hn => (m.block b (Nat.lt_of_lt_of_le hb h.size) (fun hq => (hs b hq).elim hn (fun q => by omega))).trans (h.block b hb hn)⟩
/-- Of what lay there only blocks of S have turned; what is S' now was S, or is new. -/
def Nxt (S S' : Nat → Prop) (w w' : World) : Prop := Fr S w w' ∧ ∀ b, S' b → S b ∨ w.heap.size ≤ b
theorem Nxt.refl (S : Nat → Prop) (w : World) : Nxt S S w w := ⟨Fr.refl _ _, fun _ hb => .inl hb⟩
theorem Nxt.trans {S S' S'' : Nat → Prop} {w w1 w2 : World} (h : Nxt S S' w w1) (h' : Nxt S' S'' w1 w2) : Nxt S S'' w w2 :=
  ⟨h.1.intoN h'.1 h.2, fun b hb => (h'.2 b hb).elim (h.2 b) (fun q => .inr (by have := h.1.size; omega))⟩
theorem Nxt.below {S S' : Nat → Prop} {w w1 w2 : World} (h : Nxt S S' w1 w2) (hb : Below w.heap.size w w1) : Nxt S S' w w2 := ⟨(Fr.of_below hb).trans h.1, fun b hb' => (h.2 b hb').imp id (fun q => by have := hb.size; omega)⟩
theorem Nxt.later {S S' : Nat → Prop} {w w1 w2 : World} (h : Nxt S S' w w1) (hb : Below w1.heap.size w1 w2) : Nxt S S' w w2 := ⟨h.1.trans (Fr.of_below hb), h.2⟩
/-- One of the drives. -/
structure Ds where
  D : Nat
  S : Nat → Prop
  x : Dv
def Ds.ptr (d : Ds) : Value := .pointer (some ⟨d.D, 0, none⟩)
/-- What must be known of the way a drive lies. -/
structure LayR (R : World → (Nat → Prop) → Nat → Dv → Prop) : Prop where
  fr : ∀ {w w' : World} {S T : Nat → Prop} {D : Nat} {x : Dv}, R w S D x → Fr T w w' → (∀ b, S b → ¬ T b) → R w' S D x
  old : ∀ {w : World} {S : Nat → Prop} {D : Nat} {x : Dv}, R w S D x → ∀ b, S b → b < w.heap.size
structure Ars (R : World → (Nat → Prop) → Nat → Dv → Prop) (TA TD : TypeId) (w : World) (S : Nat → Prop) (A : Nat) (AL : Option Addr) (c : Nat) (ds : List Ds) : Prop where
  box : w.heap[A]? = some (.cells #[.slice AL ds.length c] TA (0, 0))
  row : Rn w AL TD 1 ds.length c (ds.map Ds.ptr)
  rep : ∀ (i : Nat) (d : Ds), ds[i]? = some d → R w d.S d.D d.x ∧ ¬ d.S A ∧ (∀ b, Bk AL b → ¬ d.S b) ∧ ∀ b, d.S b → S b
  dis : ∀ (i j : Nat) (d e : Ds), ds[i]? = some d → ds[j]? = some e → i ≠ j → ∀ b, d.S b → ¬ e.S b
  own : S A ∧ ∀ b, Bk AL b → S b
  old : ∀ b, S b → b < w.heap.size
def Arr (R : World → (Nat → Prop) → Nat → Dv → Prop) (TA TD : TypeId) (w : World) (S : Nat → Prop) (A : Nat) (xs : List Dv) : Prop := ∃ AL c ds, Ars R TA TD w S A AL c ds ∧ ds.map Ds.x = xs
section
variable {R R' : World → (Nat → Prop) → Nat → Dv → Prop} {TA TD : TypeId} {w w' : World} {S S' T : Nat → Prop} {A c i : Nat} {AL : Option Addr} {ds : List Ds} {d : Ds} {xs : List Dv} {x y : Dv}
theorem Ars.fr (L : LayR R) (h : Ars R TA TD w S A AL c ds) (hf : Fr T w w') (hT : ∀ b, S b → ¬ T b) : Ars R TA TD w' S A AL c ds :=
  ⟨hf.row_some h.box (hT A h.own.1), h.row.fr hf (fun b hb => hT b (h.own.2 b hb)), fun i d hd => by
    obtain ⟨h1, h2, h3, h4⟩ := h.rep i d hd
    exact ⟨L.fr h1 hf (fun b hb => hT b (h4 b hb)), h2, h3, h4⟩, h.dis, h.own, fun b hb => Nat.lt_of_lt_of_le (h.old b hb) hf.size⟩
theorem Ars.later (L : LayR R) (h : Ars R TA TD w S A AL c ds) (hb : Below w.heap.size w w') : Ars R TA TD w' S A AL c ds := h.fr L (Fr.of_below hb : Fr (fun _ => False) _ _) (fun _ _ h => h)
theorem Ars.imp (hm : ∀ w S D x, R w S D x → R' w S D x) (h : Ars R TA TD w S A AL c ds) : Ars R' TA TD w S A AL c ds :=
  ⟨h.box, h.row, fun i d hd => by
    obtain ⟨h1, h2⟩ := h.rep i d hd
    exact ⟨hm _ _ _ _ h1, h2⟩, h.dis, h.own, h.old⟩
theorem Arr.fr (L : LayR R) (h : Arr R TA TD w S A xs) (hf : Fr T w w') (hT : ∀ b, S b → ¬ T b) : Arr R TA TD w' S A xs := by
  obtain ⟨AL, c, ds, h, e⟩ := h
  exact ⟨AL, c, ds, h.fr L hf hT, e⟩
theorem Arr.later (L : LayR R) (h : Arr R TA TD w S A xs) (hb : Below w.heap.size w w') : Arr R TA TD w' S A xs := h.fr L (Fr.of_below hb : Fr (fun _ => False) _ _) (fun _ _ h => h)
theorem Arr.imp (hm : ∀ w S D x, R w S D x → R' w S D x) (h : Arr R TA TD w S A xs) : Arr R' TA TD w S A xs := by
  obtain ⟨AL, c, ds, h, e⟩ := h
  exact ⟨AL, c, ds, h.imp hm, e⟩
theorem Arr.old (h : Arr R TA TD w S A xs) {b : Nat} (hb : S b) : b < w.heap.size := by
  obtain ⟨AL, c, ds, h, e⟩ := h
  exact h.old b hb
theorem xs_at (e : ds.map Ds.x = xs) (h : xs[i]? = some x) : ∃ d, ds[i]? = some d ∧ d.x = x := by
  rw [← e, List.getElem?_map] at h
  cases hd : ds[i]? with
  | none => rw [hd] at h; cases h
  | some d => rw [hd] at h; injection h with h; exact ⟨d, rfl, h⟩
theorem xs_of (e : ds.map Ds.x = xs) (h : ds[i]? = some d) : xs[i]? = some d.x := by rw [← e, List.getElem?_map, h]; rfl
theorem xs_len (e : ds.map Ds.x = xs) : ds.length = xs.length := by rw [← e, List.length_map]
/-- The box's cell. -/
theorem Ars.c0 (h : Ars R TA TD w S A AL c ds) : w.cell? ⟨A, 0, none⟩ = some (.slice AL ds.length c) := by rw [cell_of_row _ _ _ _ _ _ h.box]; rfl
/-- A pointer in the slice. -/
theorem Ars.at_ (h : Ars R TA TD w S A AL c ds) (h0 : 0 < ds.length) : ∃ g, AL = some ⟨g, 0, none⟩ ∧ ∀ (i : Nat) (d : Ds), ds[i]? = some d → w.cell? ⟨g, i, none⟩ = some d.ptr := by
  rcases h.row with ⟨q, _⟩ | ⟨g, hA, hr⟩
  · omega
  · exact ⟨g, hA, fun i d hd => hr.cell (by rw [List.getElem?_map, hd]; rfl)⟩
/-- One drive is turned. -/
theorem Ars.mut (L : LayR R) (L' : LayR R') (hm : ∀ w S D x, R w S D x → R' w S D x) (h : Ars R TA TD w S A AL c ds) (hd : ds[i]? = some d) (hr : R' w' S' d.D y) (hf : Fr d.S w w') (hs : ∀ b, S' b → d.S b ∨ w.heap.size ≤ b) :
    Ars R' TA TD w' (fun b => S b ∨ S' b) A AL c (ds.set i ⟨d.D, S', y⟩) := by
  obtain ⟨r1, r2, r3, r4⟩ := h.rep i d hd
  have hi := get_lt hd
  have hA := h.old A h.own.1
  have hnew : ∀ b, S b → ¬ d.S b → ¬ S' b := fun b hb hn hq => (hs b hq).elim hn (fun q => by have := h.old b hb; omega)
  refine ⟨?_, ?_, fun j e he => ?_, fun j k e g he hg hne b hb => ?_, ⟨.inl h.own.1, fun b hb => .inl (h.own.2 b hb)⟩, fun b hb => ?_⟩
  · rw [List.length_set]
    exact hf.row_some h.box r2
  · have e : (ds.set i ⟨d.D, S', y⟩).map Ds.ptr = ds.map Ds.ptr := by
      apply List.ext_getElem?
      intro j
      rw [List.getElem?_map, List.getElem?_map, List.getElem?_set]
      by_cases hj : i = j
      · subst hj
        rw [if_pos rfl, if_pos hi, hd]
        rfl
      · rw [if_neg hj]
    rw [List.length_set, e]
    exact h.row.fr hf r3
  · rw [List.getElem?_set] at he
    by_cases hj : i = j
    · rw [if_pos hj, if_pos hi] at he
      injection he with he
      subst he
      exact ⟨hr, hnew A h.own.1 r2, fun b hb => hnew b (h.own.2 b hb) (r3 b hb), fun b hb => .inr hb⟩
    · rw [if_neg hj] at he
      obtain ⟨g1, g2, g3, g4⟩ := h.rep j e he
      exact ⟨hm _ _ _ _ (L.fr g1 hf (fun b hb hb' => h.dis i j d e hd he hj b hb' hb)), g2, g3, fun b hb => .inl (g4 b hb)⟩
  · rw [List.getElem?_set] at he hg
    by_cases hj : i = j
    · rw [if_pos hj, if_pos hi] at he
      injection he with he
      subst he
      rw [if_neg (fun q => hne (hj.symm.trans q))] at hg
      have hb : S' b := hb
      intro hgb
      have h4 := (h.rep k g hg).2.2.2 b hgb
      exact hnew b h4 (fun q => h.dis i k d g hd hg (fun q => hne (hj.symm.trans q)) b q hgb) hb
    · rw [if_neg hj] at he
      by_cases hk : i = k
      · rw [if_pos hk, if_pos hi] at hg
        injection hg with hg
        subst hg
        have h4 := (h.rep j e he).2.2.2 b hb
        exact hnew b h4 (fun q => h.dis i j d e hd he hj b q hb)
      · rw [if_neg hk] at hg
        exact h.dis j k e g he hg hne b hb
  · rcases hb with hb | hb
    · exact Nat.lt_of_lt_of_le (h.old b hb) hf.size
    · exact L'.old hr b hb
theorem map_set_x (e : ds.map Ds.x = xs) (hd : ds[i]? = some d) {D : Nat} : (ds.set i ⟨D, S', y⟩).map Ds.x = xs.set i y := by
  rw [← e, List.map_set]
/-- One drive is turned, told of plain drives. -/
theorem Ars.turn (L : LayR R) (L' : LayR R') (hm : ∀ w S D x, R w S D x → R' w S D x) (h : Ars R TA TD w S A AL c ds) (e : ds.map Ds.x = xs) (hd : ds[i]? = some d) (hr : R' w' S' d.D y) (hf : Fr d.S w w') (hs : ∀ b, S' b → d.S b ∨ w.heap.size ≤ b) :
    ∃ S2, Arr R' TA TD w' S2 A (xs.set i y) ∧ Nxt S S2 w w' := by
  have r4 := (h.rep i d hd).2.2.2
  refine ⟨_, ⟨AL, c, _, h.mut L L' hm hd hr hf hs, map_set_x e hd⟩, hf.mono r4, fun b hb => ?_⟩
  rcases hb with hb | hb
  · exact .inl hb
  · exact (hs b hb).imp (r4 b) id
/-- Drives, each in blocks of its own, all within T. -/
structure Dss (R : World → (Nat → Prop) → Nat → Dv → Prop) (w : World) (T : Nat → Prop) (ds : List Ds) : Prop where
  rep : ∀ (i : Nat) (d : Ds), ds[i]? = some d → R w d.S d.D d.x ∧ ∀ b, d.S b → T b
  dis : ∀ (i j : Nat) (d e : Ds), ds[i]? = some d → ds[j]? = some e → i ≠ j → ∀ b, d.S b → ¬ e.S b
  old : ∀ b, T b → b < w.heap.size
theorem Dss.nil (R : World → (Nat → Prop) → Nat → Dv → Prop) (w : World) : Dss R w (fun _ => False) [] := ⟨fun i d h => by simp at h, fun i j d e h => by simp at h, fun b h => h.elim⟩
theorem Dss.fr {U : Nat → Prop} (L : LayR R) (h : Dss R w T ds) (hf : Fr U w w') (hU : ∀ b, T b → ¬ U b) : Dss R w' T ds :=
  ⟨fun i d hd => by
    obtain ⟨h1, h2⟩ := h.rep i d hd
    exact ⟨L.fr h1 hf (fun b hb => hU b (h2 b hb)), h2⟩, h.dis, fun b hb => Nat.lt_of_lt_of_le (h.old b hb) hf.size⟩
theorem Dss.push (L : LayR R) {D : Nat} (h : Dss R w T ds) (hb : Below w.heap.size w w') (hr : R w' S' D y) (hs : ∀ b, S' b → w.heap.size ≤ b) : Dss R w' (fun b => T b ∨ S' b) (ds ++ [⟨D, S', y⟩]) := by
  have key : ∀ j e, (ds ++ [(⟨D, S', y⟩ : Ds)])[j]? = some e → (ds[j]? = some e) ∨ (j = ds.length ∧ e = ⟨D, S', y⟩) := by
    intro j e he
    rcases Nat.lt_or_ge j ds.length with hj | hj
    · rw [List.getElem?_append_left hj] at he; exact .inl he
    · rw [List.getElem?_append_right hj] at he
      rcases hk : j - ds.length with _ | k
      · rw [hk] at he; simp at he; exact .inr ⟨by omega, he.symm⟩
      · rw [hk] at he; simp at he
  have hmid : ∀ b, T b → ¬ S' b := fun b hb hq => by have := h.old b hb; have := hs b hq; omega
  refine ⟨fun j e he => ?_, fun j k e g he hg hne b hb hgb => ?_, fun b hb' => ?_⟩
  · rcases key j e he with he | ⟨hj, rfl⟩
    · obtain ⟨g1, g2⟩ := h.rep j e he
      exact ⟨L.fr g1 (Fr.of_below hb : Fr (fun _ => False) _ _) (fun _ _ h => h), fun b hb => .inl (g2 b hb)⟩
    · exact ⟨hr, fun b hb => .inr hb⟩
  · rcases key j e he with he | ⟨hj, rfl⟩
    · rcases key k g hg with hg | ⟨hk, rfl⟩
      · exact h.dis j k e g he hg hne b hb hgb
      · exact hmid b ((h.rep j e he).2 b hb) hgb
    · rcases key k g hg with hg | ⟨hk, rfl⟩
      · exact hmid b ((h.rep k g hg).2 b hgb) hb
      · omega
  · rcases hb' with hb' | hb'
    · exact Nat.lt_of_lt_of_le (h.old b hb') hb.size
    · exact L.old hr b hb'
/-- With a slice of their pointers and a box they are an array. -/
theorem Dss.ars (h : Dss R w T ds) (hrow : Rn w AL TD 1 ds.length c (ds.map Ds.ptr)) (hbox : w.heap[A]? = some (.cells #[.slice AL ds.length c] TA (0, 0))) (h1 : ∀ b, Bk AL b → ¬ T b) (h2 : ¬ T A) : Ars R TA TD w (fun b => T b ∨ Bk AL b ∨ b = A) A AL c ds :=
  ⟨hbox, hrow, fun i d hd => by
    obtain ⟨g1, g2⟩ := h.rep i d hd
    exact ⟨g1, fun q => h2 (g2 A q), fun b hb q => h1 b hb (g2 b q), fun b hb => .inl (g2 b hb)⟩, h.dis, ⟨.inr (.inr rfl), fun b hb => .inr (.inl hb)⟩, fun b hb => by
    rcases hb with hb | hb | hb
    · exact h.old b hb
    · exact hrow.lt hb
    · rw [hb]; exact block_lt hbox⟩
/-- Answers that grow by append beside an array that is turned: one step. -/
theorem Nxt.far {S S' T : Nat → Prop} {w w2 w3 : World} (h : Nxt S S' w w2) (hf : Fr T w2 w3) (hT : ∀ b, T b → w.heap.size ≤ b) : Nxt S S' w w3 := ⟨h.1.intoN hf (fun b hb => .inr (hT b hb)), h.2⟩
theorem ans_step (L : LayR R) {A' A3 : Option Addr} {TE : TypeId} {n c3 : Nat} {vs : List Value} {ys : List Dv} {wr w2 w3 : World} {S2 : Nat → Prop} (hrn : Rn wr A' TE 1 n c3 vs) (hA' : ∀ b, Bk A' b → w.heap.size ≤ b ∧ ¬ S' b) (hN : Nxt S S' w wr) (harr : Arr R TA TD w2 S2 A ys) (hN2 : Nxt S' S2 wr w2) (hf : Fr (Bk A') w2 w3) (ho : A3 = A' ∨ ∃ g, A3 = some ⟨g, 0, none⟩ ∧ w2.heap.size ≤ g) :
    Arr R TA TD w3 S2 A ys ∧ Nxt S S2 w w3 ∧ ∀ b, Bk A3 b → w.heap.size ≤ b ∧ ¬ S2 b := by
  have hn : ∀ b, Bk A' b → ¬ S2 b := fun b hb hq => (hN2.2 b hq).elim (hA' b hb).2 (fun q => by have := hrn.lt hb; omega)
  refine ⟨harr.fr L hf (fun b hb hq => hn b hq hb), (hN.trans hN2).far hf (fun b hb => (hA' b hb).1), fun b hb => ?_⟩
  rcases ho with rfl | ⟨g, rfl, hg⟩
  · exact ⟨(hA' b hb).1, hn b hb⟩
  · obtain ⟨o, hb⟩ := hb
    injection hb with hb
    injection hb with hb _
    have := hN.1.size
    have := hN2.1.size
    exact ⟨by omega, fun hq => by have := harr.old hq; omega⟩
end

/-! Slices of slices. -/
/-- The slice reads as the lists rs (each as enc tells), whose values are vs; its block and theirs lie in T. -/
structure Ns {α : Type} (enc : List α → List Value) (w : World) (T : Nat → Prop) (A : Option Addr) (n c : Nat) (rs : List (List α)) : Prop where
  ex : ∃ vs : List Value, Sl w 1 A n c vs ∧ ∀ (i : Nat) (r : List α), rs[i]? = some r → ∃ A' c', vs[i]? = some (Value.slice A' r.length c') ∧ Sl w 1 A' r.length c' (enc r) ∧ ∀ b o, 0 < r.length → A' = some ⟨b, o, none⟩ → T b
  len : rs.length = n
  blk : ∀ b o, 0 < n → A = some ⟨b, o, none⟩ → T b
section
variable {α : Type} {enc : List α → List Value} {w w' w0 : World} {T T' U : Nat → Prop} {A A' : Option Addr} {n c c' i B : Nat} {rs : List (List α)} {r : List α}
theorem Ns.fr (h : Ns enc w T A n c rs) (hf : Fr U w w') (hT : ∀ b, T b → ¬ U b) : Ns enc w' T A n c rs := by
  obtain ⟨vs, hs, hr⟩ := h.ex
  refine ⟨⟨vs, hs.fr hf (fun b o hn hA => hT b (h.blk b o hn hA)), fun i r hi => ?_⟩, h.len, h.blk⟩
  obtain ⟨A', c', h1, h2, h3⟩ := hr i r hi
  exact ⟨A', c', h1, h2.fr hf (fun b o hn hA => hT b (h3 b o hn hA)), h3⟩
theorem Ns.later (h : Ns enc w T A n c rs) (hb : Below w.heap.size w w') : Ns enc w' T A n c rs := h.fr (Fr.of_below hb : Fr (fun _ => False) _ _) (fun _ _ h => h)
theorem Ns.wid (h : Ns enc w T A n c rs) (hT : ∀ b, T b → T' b) : Ns enc w T' A n c rs := by
  obtain ⟨vs, hs, hr⟩ := h.ex
  refine ⟨⟨vs, hs, fun i r hi => ?_⟩, h.len, fun b o hn hA => hT b (h.blk b o hn hA)⟩
  obtain ⟨A', c', h1, h2, h3⟩ := hr i r hi
  exact ⟨A', c', h1, h2, fun b o hn hA => hT b (h3 b o hn hA)⟩
theorem Ns.nil (w : World) (T : Nat → Prop) (c : Nat) (h : c ≤ maxLen) : Ns enc w T none 0 c [] := ⟨⟨[], Sl.nil w 1 c h, fun i r h => by simp at h⟩, rfl, fun b o hn => absurd hn (Nat.lt_irrefl _)⟩
theorem Ns.at_ (h : Ns enc w T A n c rs) (h0 : 0 < n) : ∃ b o, A = some ⟨b, o, none⟩ ∧ T b ∧ ∀ (i : Nat) (r : List α), rs[i]? = some r → ∃ A' c', w.cell? ⟨b, o + i, none⟩ = some (.slice A' r.length c') ∧ Sl w 1 A' r.length c' (enc r) ∧ ∀ b o, 0 < r.length → A' = some ⟨b, o, none⟩ → T b := by
  obtain ⟨vs, hs, hr⟩ := h.ex
  obtain ⟨b, o, e, hc⟩ := hs.at_ h0
  refine ⟨b, o, e, h.blk b o h0 e, fun i r hi => ?_⟩
  obtain ⟨A', c', h1, h2, h3⟩ := hr i r hi
  exact ⟨A', c', hc i _ h1, h2, h3⟩
theorem Ns.capLe (h : Ns enc w T A n c rs) : n ≤ c ∧ c ≤ maxLen := by
  obtain ⟨vs, hs, _⟩ := h.ex
  exact ⟨hs.cap, hs.top⟩
/-- Lists that grow by append, in blocks of T. -/
structure Ng {α : Type} (enc : List α → List Value) (TD : TypeId) (w : World) (T : Nat → Prop) (A : Option Addr) (n c : Nat) (rs : List (List α)) : Prop where
  ex : ∃ vs : List Value, Rn w A TD 1 n c vs ∧ ∀ (i : Nat) (r : List α), rs[i]? = some r → ∃ A' c', vs[i]? = some (Value.slice A' r.length c') ∧ Sl w 1 A' r.length c' (enc r) ∧ ∀ b o, 0 < r.length → A' = some ⟨b, o, none⟩ → T b ∧ ¬ Bk A b
  len : rs.length = n
  blk : ∀ b, Bk A b → T b
theorem Ng.fr {TD : TypeId} (h : Ng enc TD w T A n c rs) (hf : Fr U w w') (hU : ∀ b, T b → ¬ U b) : Ng enc TD w' T A n c rs := by
  obtain ⟨vs, hs, hr⟩ := h.ex
  refine ⟨⟨vs, hs.fr hf (fun b hb => hU b (h.blk b hb)), fun i r hi => ?_⟩, h.len, h.blk⟩
  obtain ⟨A', c', h1, h2, h3⟩ := hr i r hi
  exact ⟨A', c', h1, h2.fr hf (fun b o hn hA => hU b (h3 b o hn hA).1), h3⟩
theorem Ng.later {TD : TypeId} (h : Ng enc TD w T A n c rs) (hb : Below w.heap.size w w') : Ng enc TD w' T A n c rs := h.fr (Fr.of_below hb : Fr (fun _ => False) _ _) (fun _ _ h => h)
theorem Ng.nil {TD : TypeId} (w : World) (T : Nat → Prop) : Ng enc TD w T none 0 0 [] := ⟨⟨[], .inl ⟨rfl, rfl, rfl, rfl⟩, fun i r h => by simp at h⟩, rfl, fun b hb => by obtain ⟨o, hb⟩ := hb; cases hb⟩
theorem Ng.ns {TD : TypeId} (h : Ng enc TD w T A n c rs) : Ns enc w T A n c rs := by
  obtain ⟨vs, hs, hr⟩ := h.ex
  refine ⟨⟨vs, hs.sl, fun i r hi => ?_⟩, h.len, fun b o hn hA => ?_⟩
  · obtain ⟨A', c', h1, h2, h3⟩ := hr i r hi
    exact ⟨A', c', h1, h2, fun b o hn hA => (h3 b o hn hA).1⟩
  · exact h.blk b ⟨o, hA⟩
theorem Ng.lt {TD : TypeId} (h : Ng enc TD w T A n c rs) {b : Nat} (hb : Bk A b) : b < w.heap.size := by
  obtain ⟨vs, hs, hr⟩ := h.ex
  exact hs.lt hb
theorem Rn.vlen {TD : TypeId} {vs : List Value} (h : Rn w A TD 1 n c vs) : vs.length = n := by have := h.sl.len; omega
/-- The values of its slices. -/
structure Ngv {α : Type} (enc : List α → List Value) (TD : TypeId) (w : World) (T : Nat → Prop) (A : Option Addr) (n c : Nat) (rs : List (List α)) (vs : List Value) : Prop where
  rn : Rn w A TD 1 n c vs
  row : ∀ (i : Nat) (r : List α), rs[i]? = some r → ∃ A' c', vs[i]? = some (Value.slice A' r.length c') ∧ Sl w 1 A' r.length c' (enc r) ∧ ∀ b o, 0 < r.length → A' = some ⟨b, o, none⟩ → T b ∧ ¬ Bk A b
  len : rs.length = n
  blk : ∀ b, Bk A b → T b
theorem Ng.vs {TD : TypeId} (h : Ng enc TD w T A n c rs) : ∃ vs, Ngv enc TD w T A n c rs vs := by
  obtain ⟨vs, hs, hr⟩ := h.ex
  exact ⟨vs, hs, hr, h.len, h.blk⟩
theorem Ngv.ng {TD : TypeId} {vs : List Value} (h : Ngv enc TD w T A n c rs vs) : Ng enc TD w T A n c rs := ⟨⟨vs, h.rn, h.row⟩, h.len, h.blk⟩
/-- Behind an append of one more. -/
theorem Ngv.push {TD : TypeId} {vs : List Value} {A2 : Option Addr} {c2 : Nat} (h : Ngv enc TD w T A n c rs vs) (hT : ∀ b, T b → T' b) (h2 : Sl w 1 A2 r.length c2 (enc r)) (h2b : ∀ b o, 0 < r.length → A2 = some ⟨b, o, none⟩ → T' b ∧ ¬ Bk A b)
    (hn : Rn w' A' TD 1 (n + 1) c' (vs ++ [.slice A2 r.length c2])) (hf : Fr (Bk A) w w') (ho : A' = A ∨ ∃ g, A' = some ⟨g, 0, none⟩ ∧ w.heap.size ≤ g) (hN : ∀ b, Bk A' b → w.heap.size ≤ b → T' b) : Ng enc TD w' T' A' (n + 1) c' (rs ++ [r]) := by
  have hvl := h.rn.vlen
  have keep : ∀ A3 c3 (r3 : List α), Sl w 1 A3 r3.length c3 (enc r3) → (∀ b o, 0 < r3.length → A3 = some ⟨b, o, none⟩ → T' b ∧ ¬ Bk A b) → Sl w' 1 A3 r3.length c3 (enc r3) ∧ ∀ b o, 0 < r3.length → A3 = some ⟨b, o, none⟩ → T' b ∧ ¬ Bk A' b := by
    intro A3 c3 r3 g1 g2
    refine ⟨g1.fr hf (fun b o hl hA => (g2 b o hl hA).2), fun b o hl hA => ⟨(g2 b o hl hA).1, fun hq => ?_⟩⟩
    rcases ho with rfl | ⟨g, rfl, hg⟩
    · exact (g2 b o hl hA).2 hq
    · obtain ⟨o', hq⟩ := hq
      injection hq with hq
      injection hq with hq _
      have := g1.lt (by decide) hl hA
      omega
  refine ⟨⟨_, hn, fun i r3 hi => ?_⟩, by rw [List.length_append, h.len]; rfl, fun b hb => ?_⟩
  · rcases Nat.lt_or_ge i n with hlt | hge
    · rw [List.getElem?_append_left (by rw [h.len]; exact hlt)] at hi
      obtain ⟨A3, c3, g1, g2, g3⟩ := h.row i r3 hi
      exact ⟨A3, c3, by rw [List.getElem?_append_left (by rw [hvl]; exact hlt)]; exact g1, keep A3 c3 r3 g2 (fun b o hl hA => ⟨hT b (g3 b o hl hA).1, (g3 b o hl hA).2⟩)⟩
    · rw [List.getElem?_append_right (by rw [h.len]; exact hge), h.len] at hi
      have : i - n = 0 ∧ r = r3 := by
        rcases hk : i - n with _ | k
        · rw [hk] at hi; simp at hi; exact ⟨rfl, hi⟩
        · rw [hk] at hi; simp at hi
      obtain ⟨h0, rfl⟩ := this
      exact ⟨A2, c2, by rw [List.getElem?_append_right (by rw [hvl]; exact hge), hvl, h0]; rfl, keep A2 c2 r h2 h2b⟩
  · rcases ho with rfl | ⟨g, rfl, hg⟩
    · exact hT b (h.blk b hb)
    · refine hN b hb ?_
      obtain ⟨o', hb⟩ := hb
      injection hb with hb
      injection hb with hb _
      omega
end
/-- append of one value, in a slice that was made for it, onto a block that is known whole, or onto no slice at all. -/
theorem wpList_append_made {P : Program} {ops : Array Oper} {rest : List Oper} {o : Oper} {a : Act} {Q : Exit → Act → World → Prop} {w : World} {A : Option Addr} {T : TypeId} {n c : Nat} {xs : List Value} {v : Value} (hgd : o.guard = none) (s x : Operand) (t tx : TypeId)
    (ho : o.op = .call { callee := .builtin .append, args := #[s, x], argTypes := #[t, tx] })
    (i : TypeInfo) (z : Value) (bytes : Nat) (ht : P.underlying t = some (.slice T)) (htx : P.underlying tx = some (.slice T)) (hi : P.info? T = some i) (hz : i.zero = some z)
    (hsize : i.size = 1) (hby : i.bytes = bytes) (hzs : z.cells.size = 1) (hb24 : bytes ≤ 24) (hv : a.eval s = .slice A n c) (h : Rn w A T 1 n c xs)
    (hx : a.eval x = .slice (some ⟨w.heap.size, 0, none⟩) 1 1) (h1 : v.oneCell' = true) (h40 : n ≤ 1048576)
    (hk : ∀ A' c' w', Rn w' A' T 1 (n + 1) c' (xs ++ [v]) → Fr (Bk A) w w' → (A' = A ∨ ∃ g, A' = some ⟨g, 0, none⟩ ∧ w.heap.size ≤ g) → wpList P ops Q rest (a.put o.dst (.slice A' (n + 1) c')) w') : wpList P ops Q (o :: rest) a (w.alloc (.cells #[v] T)) := by
  have hb : Below w.heap.size w (w.alloc (.cells #[v] T)) := (Below.refl _ _).alloc (Nat.le_refl _) _
  have hsl := Sl.made w #[v] T 1 1 rfl (by decide)
  refine wpList_append_rn hgd s x t tx ho i z bytes ht hi hz hsize hby hzs (by decide) hv (h.later hb) _ 1 [v] hx (hsl.src htx (by decide) (fun u hu => by simp at hu; rw [hu]; exact h1)) (by unfold maxLen; omega) (by
    have : (n + 1) * bytes ≤ 1048577 * 24 := Nat.mul_le_mul (by omega) hb24
    omega) fun A' c' w' g1 g2 g3 => hk A' c' w' g1 ((Fr.of_below hb).trans g2) (g3.imp id fun e => ⟨_, e, by have := hb.size; omega⟩)
end Go.Proofs.Ytjjoeaneaibklaa

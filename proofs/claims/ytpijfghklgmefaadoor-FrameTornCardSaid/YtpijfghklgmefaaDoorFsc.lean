/-
  append of rows and of ints, told of which blocks turn: rows and ints that grow side by side. No condition.
-/
import Derived.Test.YtpijfghklgmefaaDoorFrf
namespace Go.Proofs.YtpijfghklgmefaaDoor
open Go.RowKit Go.Proofs
set_option linter.unusedVariables false
set_option maxRecDepth 20000
set_option maxHeartbeats 1600000

theorem Own.frE {w w' : World} {B n c : Nat} {T : TypeId} {A : Option Addr} {xs : List Value} {S : Nat → Prop} (h : Own w B T 1 A n c xs) (hf : Fr S w w') (hA : ∀ b o, A = some ⟨b, o, none⟩ → ¬ S b) : Own w' B T 1 A n c xs := by
  refine ⟨h.sl.fr hf fun b o _ e => hA b o e, ?_⟩
  rcases h.own with h1 | ⟨hl, hv⟩
  · exact .inl h1
  · right
    refine ⟨hl, ?_⟩
    rcases hv with hv | ⟨g, cap, cur, hv, hbg, hg, hr⟩
    · exact .inl hv
    · have hA' := hv
      injection hA' with hA' _ _
      exact .inr ⟨g, cap, cur, hv, hbg, hf.row_some hg (hA g 0 hA'), hr⟩
theorem GgV.frE {w w' : World} {B n c : Nat} {A : Option Addr} {rs : List (List UInt8)} {vs : List Value} {S : Nat → Prop} (h : GgV w B A n c rs vs) (hf : Fr S w w') (hA : ∀ b o, A = some ⟨b, o, none⟩ → ¬ S b)
    (hR : ∀ (i : Nat) (r : List UInt8) (A' : Option Addr) (c' : Nat), rs[i]? = some r → vs[i]? = some (Value.slice A' r.length c') → ∀ b o, 0 < r.length → A' = some ⟨b, o, none⟩ → ¬ S b) : GgV w' B A n c rs vs :=
  ⟨h.own.frE hf hA, fun i r hi => by
    obtain ⟨A', c', h1, h2, h3⟩ := h.rows i r hi
    exact ⟨A', c', h1, h2.fr hf (hR i r A' c' hi h1), h3⟩, h.len, fun b o e => ⟨(h.blk b o e).1, Nat.lt_of_lt_of_le (h.blk b o e).2 hf.size⟩⟩
/-- append of rows onto rows of the call's own, with their values, and in which block the slice lies then. -/
theorem wpList_append_gVE {w : World} {B n c : Nat} {A : Option Addr} {rs : List (List UInt8)} {vs : List Value} {ops : Array Oper} {rest : List Oper} {o : Oper} {a : Act} {Q : Exit → Act → World → Prop} (hgd : o.guard = none) (s x : Operand)
    (ho : o.op = .call { callee := .builtin .append, args := #[s, x], argTypes := #[33, 33] })
    (hv : a.eval s = .slice A n c) (h : GgV w B A n c rs vs) (hB : B ≤ w.heap.size)
    (A2 : Option Addr) (m c2 : Nat) (ys : List (List UInt8)) (vs2 : List Value) (hx : a.eval x = .slice A2 m c2) (hs : GrV w A2 m c2 ys vs2) (h40 : n + m ≤ 1048576)
    (hfar : ∀ (i : Nat) (r : List UInt8) (A' : Option Addr) (c' : Nat), ys[i]? = some r → vs2[i]? = some (Value.slice A' r.length c') → Oth A A' r.length)
    (hk : ∀ A' c' w', GgV w' B A' (n + m) c' (rs ++ ys) (vs ++ vs2) → Below B w w' → Fr (Blk A) w w' → (A' = A ∨ A' = some ⟨w.heap.size, 0, none⟩) → wpList Tryd.prog ops Q rest (a.put o.dst (.slice A' (n + m) c')) w') : wpList Tryd.prog ops Q (o :: rest) a w := by
  obtain ⟨i0, hi, hz0, hz1, hz2⟩ := info_parts info_bs
  have hown := h.own
  have hrs := h.rows
  have hsl2 := hs.sl
  have hrs2 := hs.rows
  have hone := one_slice (rows_slice hsl2 hs.len hrs2)
  obtain ⟨A', c', w', hr, h2, hfr, hA', hown'⟩ := run_append_fr (P := Tryd.prog) 33 33 o.type i0 (.slice none 0 0) 24 Tryd.underlying33 hi hz0 hz1 hz2 rfl (by decide) hown hB h.blk (.slice A2 m c2) m vs2 (hsl2.src Tryd.underlying33 (by decide) hone) (by unfold maxLen; omega) (by omega)
  refine wpList_plain hgd fun _ hK => ?_
  unfold Oper.wp execOp
  simp only [ho, resolve, invoke, builtin, Sem.run_bind, Sem.run_pure, Result.andThen_ok, List.map_toArray, List.map_cons, List.map_nil, hv, hx, hr]
  refine hK _ _ (hk A' c' w' ⟨h2, fun i r hir => ?_, by rw [List.length_append, h.len, hs.len], hown'⟩ (hfr.below hB (fun k ⟨o, e⟩ => (h.blk k o e).1)) hfr hA')
  have hvl := hown.sl.len
  rw [Nat.mul_one] at hvl
  have new : ∀ A'' c'', Sl w 1 A'' r.length c'' (cells r) → Oth A A'' r.length → Sl w' 1 A'' r.length c'' (cells r) ∧ Oth A' A'' r.length := by
    intro A'' c'' hsr hot
    refine ⟨hsr.oth hfr hot, fun b o o' hn e e' => ?_⟩
    rcases hA' with rfl | rfl
    · exact hot b o o' hn e e'
    · injection e' with e'
      injection e' with e' _
      have := hsr.lt (by decide) hn e
      omega
  rcases Nat.lt_or_ge i n with hlt | hge
  · rw [List.getElem?_append_left (by rw [h.len]; exact hlt)] at hir
    obtain ⟨A'', c'', e1, e2, e3⟩ := hrs i r hir
    exact ⟨A'', c'', by rw [List.getElem?_append_left (by rw [hvl]; exact hlt)]; exact e1, new A'' c'' e2 e3⟩
  · rw [List.getElem?_append_right (by rw [h.len]; exact hge), h.len] at hir
    obtain ⟨A'', c'', e1, e2⟩ := hrs2 (i - n) r hir
    exact ⟨A'', c'', by rw [List.getElem?_append_right (by rw [hvl]; exact hge), hvl]; exact e1, new A'' c'' e2 (hfar (i - n) r A'' c'' hir e1)⟩
theorem wpList_append_iE {w : World} {B n c : Nat} {A : Option Addr} {xs : List Value} {ops : Array Oper} {rest : List Oper} {o : Oper} {a : Act} {Q : Exit → Act → World → Prop} (hgd : o.guard = none) (s x : Operand)
    (ho : o.op = .call { callee := .builtin .append, args := #[s, x], argTypes := #[49, 49] })
    (hv : a.eval s = .slice A n c) (h : Own w B 3 1 A n c xs) (hB : B ≤ w.heap.size) (hA : ∀ b o, A = some ⟨b, o, none⟩ → B ≤ b ∧ b < w.heap.size)
    (A2 : Option Addr) (m c2 : Nat) (ys : List Nat) (hx : a.eval x = .slice A2 m c2) (hs : Sl w 1 A2 m c2 (ncells ys)) (h40 : n + m ≤ 1048576)
    (hk : ∀ A' c' w', Own w' B 3 1 A' (n + m) c' (xs ++ ncells ys) → Fr (Blk A) w w' → (A' = A ∨ A' = some ⟨w.heap.size, 0, none⟩) → (∀ b o, A' = some ⟨b, o, none⟩ → B ≤ b ∧ b < w'.heap.size) → wpList Tryd.prog ops Q rest (a.put o.dst (.slice A' (n + m) c')) w') : wpList Tryd.prog ops Q (o :: rest) a w := by
  obtain ⟨i0, hi, hz0, hz1, hz2⟩ := info_parts info_i
  obtain ⟨A', c', w', hr, h2, hfr, hA', hown'⟩ := run_append_fr (P := Tryd.prog) 49 49 o.type i0 (.int .i64 0) 8 Tryd.underlying49 hi hz0 hz1 hz2 rfl (by decide) h hB hA (.slice A2 m c2) m (ncells ys) (hs.src Tryd.underlying49 (by decide) (ncells_one ys)) (by unfold maxLen; omega) (by omega)
  refine wpList_plain hgd fun _ hK => ?_
  unfold Oper.wp execOp
  simp only [ho, resolve, invoke, builtin, Sem.run_bind, Sem.run_pure, Result.andThen_ok, List.map_toArray, List.map_cons, List.map_nil, hv, hx, hr]
  exact hK _ _ (hk A' c' w' h2 hfr hA' hown')

/-- Rows and ints that grow side by side, in blocks that are not each other's. -/
structure Tn (w : World) (B : Nat) (A : Option Addr) (n c : Nat) (rs : List (List UInt8)) (E : Option Addr) (m d : Nat) (es : List Nat) : Prop where
  ex : ∃ vs, GgV w B A n c rs vs ∧ ∀ (i : Nat) (r : List UInt8) (A' : Option Addr) (c' : Nat), rs[i]? = some r → vs[i]? = some (Value.slice A' r.length c') → Oth E A' r.length
  ends : Own w B 3 1 E m d (ncells es)
  eb : ∀ b o, E = some ⟨b, o, none⟩ → B ≤ b ∧ b < w.heap.size
  ap : ∀ b o o', A = some ⟨b, o, none⟩ → E ≠ some ⟨b, o', none⟩
theorem Tn.nil (w : World) (B : Nat) : Tn w B none 0 0 [] none 0 0 [] :=
  ⟨⟨[], ⟨Own.full (Sl.nil w 1 0 (by decide)), fun i r h => by simp at h, rfl, fun b o e => by cases e⟩, fun i r A' c' h => by simp at h⟩, Own.full (Sl.nil w 1 0 (by decide)), fun b o e => (by cases e), fun b o o' e => (by cases e)⟩
theorem Tn.later {w w' : World} {B n c m d : Nat} {A E : Option Addr} {rs : List (List UInt8)} {es : List Nat} (h : Tn w B A n c rs E m d es) (hb : Below w.heap.size w w') : Tn w' B A n c rs E m d es := by
  obtain ⟨vs, h1, h2⟩ := h.ex
  exact ⟨⟨vs, h1.later hb, h2⟩, h.ends.below hb, fun b o e => ⟨(h.eb b o e).1, Nat.lt_of_lt_of_le (h.eb b o e).2 hb.size⟩, h.ap⟩
theorem Tn.gr {w : World} {B n c m d : Nat} {A E : Option Addr} {rs : List (List UInt8)} {es : List Nat} (h : Tn w B A n c rs E m d es) : Gr w A n c rs := by
  obtain ⟨vs, h1, h2⟩ := h.ex
  exact h1.gg.gr
theorem Tn.blk {w : World} {B n c m d : Nat} {A E : Option Addr} {rs : List (List UInt8)} {es : List Nat} (h : Tn w B A n c rs E m d es) : ∀ b o, A = some ⟨b, o, none⟩ → b < w.heap.size := by
  obtain ⟨vs, h1, h2⟩ := h.ex
  exact fun b o e => (h1.blk b o e).2
/-- append of rows that the call made lately. -/
theorem wpList_tn_app {w : World} {B n c m d D : Nat} {A E : Option Addr} {rs : List (List UInt8)} {es : List Nat} {ops : Array Oper} {rest : List Oper} {o : Oper} {a : Act} {Q : Exit → Act → World → Prop} (hgd : o.guard = none) (s x : Operand)
    (ho : o.op = .call { callee := .builtin .append, args := #[s, x], argTypes := #[33, 33] })
    (hv : a.eval s = .slice A n c) (h : Tn w B A n c rs E m d es) (hB : B ≤ w.heap.size) (hAD : ∀ b o, A = some ⟨b, o, none⟩ → b < D) (hED : ∀ b o, E = some ⟨b, o, none⟩ → b < D)
    (A2 : Option Addr) (k c2 : Nat) (ps : List (List UInt8)) (hx : a.eval x = .slice A2 k c2) (hs : Gm w D A2 k c2 ps) (h40 : n + k ≤ 1048576)
    (hk : ∀ A' c' w', Tn w' B A' (n + k) c' (rs ++ ps) E m d es → Below B w w' → wpList Tryd.prog ops Q rest (a.put o.dst (.slice A' (n + k) c')) w') : wpList Tryd.prog ops Q (o :: rest) a w := by
  obtain ⟨vs, h1, h2⟩ := h.ex
  obtain ⟨vs2, g1, g2, g3⟩ := hs.ex
  have hnew : ∀ (i : Nat) (r : List UInt8) (A' : Option Addr) (c' : Nat), ps[i]? = some r → vs2[i]? = some (Value.slice A' r.length c') → ∀ b o, 0 < r.length → A' = some ⟨b, o, none⟩ → D ≤ b := by
    intro i r A' c' hi hv b o hr e
    obtain ⟨g, c1, q1, _, _⟩ := g2.row i r hi hr
    have hge := g2.ge hi hr q1
    have q1 : vs2[i]? = some (Value.slice (some ⟨g, 0, none⟩) r.length c1) := q1
    rw [hv] at q1
    injection q1 with q1
    injection q1 with q1 _ _
    rw [e] at q1
    injection q1 with q1
    injection q1 with q1 _
    omega
  have othA : ∀ {F : Option Addr}, (∀ b o, F = some ⟨b, o, none⟩ → b < D) → ∀ (i : Nat) (r : List UInt8) (A' : Option Addr) (c' : Nat), ps[i]? = some r → vs2[i]? = some (Value.slice A' r.length c') → Oth F A' r.length := by
    intro F hF i r A' c' hi hv b o o' hr e e'
    have h3 := hnew i r A' c' hi hv b o hr e
    have h4 := hF b o' e'
    omega
  refine wpList_append_gVE hgd s x ho hv h1 hB A2 k c2 ps vs2 hx g1 h40 (othA hAD) fun A' c' w' hg hb hf hA' => hk A' c' w' ⟨⟨vs ++ vs2, hg, ?_⟩, ?_, ?_, ?_⟩ hb
  · have hvl := h1.own.sl.len
    rw [Nat.mul_one] at hvl
    intro i r A'' c'' hi hv
    rcases Nat.lt_or_ge i n with hlt | hge
    · rw [List.getElem?_append_left (by rw [h1.len]; exact hlt)] at hi
      rw [List.getElem?_append_left (by rw [hvl]; exact hlt)] at hv
      exact h2 i r A'' c'' hi hv
    · rw [List.getElem?_append_right (by rw [h1.len]; exact hge), h1.len] at hi
      rw [List.getElem?_append_right (by rw [hvl]; exact hge), hvl] at hv
      exact othA hED (i - n) r A'' c'' hi hv
  · exact h.ends.frE hf fun b o e hk => by
      obtain ⟨o', e'⟩ := hk
      exact h.ap b o' o e' e
  · exact fun b o e => ⟨(h.eb b o e).1, Nat.lt_of_lt_of_le (h.eb b o e).2 hf.size⟩
  · intro b o o' e e'
    rcases hA' with rfl | rfl
    · exact h.ap b o o' e e'
    · injection e with e
      injection e with e _
      have := (h.eb b o' e').2
      omega
/-- append of one int. -/
theorem wpList_tn_end {w : World} {B n c m d : Nat} {A E : Option Addr} {rs : List (List UInt8)} {es : List Nat} {ops : Array Oper} {rest : List Oper} {o : Oper} {a : Act} {Q : Exit → Act → World → Prop} (hgd : o.guard = none) (s x : Operand)
    (ho : o.op = .call { callee := .builtin .append, args := #[s, x], argTypes := #[49, 49] })
    (hv : a.eval s = .slice E m d) (h : Tn w B A n c rs E m d es) (hB : B ≤ w.heap.size)
    (A2 : Option Addr) (k c2 : Nat) (ys : List Nat) (hx : a.eval x = .slice A2 k c2) (hs : Sl w 1 A2 k c2 (ncells ys)) (h40 : m + k ≤ 1048576)
    (hk : ∀ E' d' w', Tn w' B A n c rs E' (m + k) d' (es ++ ys) → Below B w w' → wpList Tryd.prog ops Q rest (a.put o.dst (.slice E' (m + k) d')) w') : wpList Tryd.prog ops Q (o :: rest) a w := by
  obtain ⟨vs, h1, h2⟩ := h.ex
  refine wpList_append_iE hgd s x ho hv h.ends hB h.eb A2 k c2 ys hx hs h40 fun E' d' w' ho hf hE' hb' => hk E' d' w' ⟨⟨vs, ?_, ?_⟩, by rw [ncells_append]; exact ho, hb', ?_⟩ (hf.below hB (fun b ⟨o, e⟩ => (h.eb b o e).1))
  · refine h1.frE hf (fun b o e hk => ?_) (fun i r A' c' hi hv b o hr e hk => ?_)
    · obtain ⟨o', e'⟩ := hk
      exact h.ap b o o' e e'
    · obtain ⟨o', e'⟩ := hk
      exact h2 i r A' c' hi hv b o o' hr e e'
  · rcases hE' with rfl | rfl
    · exact h2
    · intro i r A' c' hi hv b o o' hr e e'
      injection e' with e'
      injection e' with e' _
      obtain ⟨A1, c1, q1, q2, q3⟩ := h1.rows i r hi
      rw [hv] at q1
      injection q1 with q1
      injection q1 with q1 _ _
      rw [← q1] at q2
      have := q2.lt (by decide) hr e
      omega
  · intro b o o' e e'
    rcases hE' with rfl | rfl
    · exact h.ap b o o' e e'
    · injection e' with e'
      injection e' with e' _
      have := (h1.blk b o e).2
      omega
end Go.Proofs.YtpijfghklgmefaaDoor

/-
  Layer 14's law PoolOnce, plain: its lists of what is out and what is in limbo, beside the pool's maps. No program.
-/
import Derived.Test.YtgkdpljlgdlekaaDoorEfj
namespace Go.Proofs.YtgkdpljlgdlekaaDoor
open Go.RowKit Go.Proofs
set_option linter.unusedVariables false

/-- The law's books: what is out, what is in limbo. -/
structure Books (p : Ps) (out lim : List Int) : Prop where
  isO : ∀ z, z ∈ out ↔ ∃ i, i < p.n ∧ z = ((p.a + i : Nat) : Int) ∧ p.f i = true ∧ p.g i = false
  isL : ∀ z, z ∈ lim ↔ ∃ i, i < p.n ∧ z = ((p.a + i : Nat) : Int) ∧ p.g i = true
  nO : out.Nodup
  nL : lim.Nodup
theorem mem_places {p : Ps} {l : List Nat} {z : Int} : z ∈ intsOf (placesL p l) ↔ ∃ i, i ∈ l ∧ z = ((p.a + i : Nat) : Int) := by
  rw [intsOf, placesL, List.map_map, List.mem_map]
  constructor
  · rintro ⟨i, hi, e⟩; exact ⟨i, hi, e.symm⟩
  · rintro ⟨i, hi, e⟩; exact ⟨i, hi, e.symm⟩
theorem nodup_places {p : Ps} {l : List Nat} (h : l.Nodup) : (intsOf (placesL p l)).Nodup := by
  rw [intsOf, placesL, List.map_map, List.nodup_iff_pairwise_ne, List.pairwise_map]
  refine (List.nodup_iff_pairwise_ne.1 h).imp ?_
  intro a b hab e
  have e : ((p.a + a : Nat) : Int) = ((p.a + b : Nat) : Int) := e
  exact hab (by omega)
theorem plc_nodup {n a : Nat} {f : Nat → Bool} {t : Bool} : (plc n a f t).Nodup := List.nodup_iff_pairwise_ne.2 (plc_up.imp fun h => Nat.ne_of_lt h)
section
variable {p : Ps} {out lim : List Int}
theorem Books.lenO (h : Books p out lim) : out.length = (takenL p).length := by
  have hp : out.Perm (intsOf (placesL p (takenL p))) := (List.perm_ext_iff_of_nodup h.nO (nodup_places (plc_nodup.filter _))).2 fun z => by
    rw [h.isO, mem_places]
    constructor
    · rintro ⟨i, h1, e, h2, h3⟩; exact ⟨i, takenL_mem.2 ⟨h1, h2, h3⟩, e⟩
    · rintro ⟨i, hi, e⟩
      obtain ⟨h1, h2, h3⟩ := takenL_mem.1 hi
      exact ⟨i, h1, e, h2, h3⟩
  rw [hp.length_eq, intsOf_length, placesL, List.length_map]
theorem Books.lenL (h : Books p out lim) : lim.length = cntL p.n p.g := by
  have hp : lim.Perm (intsOf (placesL p (plc p.n 0 p.g true))) := (List.perm_ext_iff_of_nodup h.nL (nodup_places plc_nodup)).2 fun z => by
    rw [h.isL, mem_places]
    constructor
    · rintro ⟨i, h1, e, h2⟩; exact ⟨i, plc_mem.2 ⟨Nat.zero_le _, h1, h2⟩, e⟩
    · rintro ⟨i, hi, e⟩
      obtain ⟨_, h1, h2⟩ := plc_mem.1 hi
      exact ⟨i, h1, e, h2⟩
  rw [hp.length_eq, intsOf_length, placesL, List.length_map]
  rfl
theorem filter_split {α : Type} (q : α → Bool) : ∀ l : List α, l.length = (l.filter q).length + (l.filter fun x => !q x).length
  | [] => rfl
  | x :: l => by
    have := filter_split q l
    cases h : q x <;> simp [h] <;> omega
theorem cnt_split (h : p.Ok) : cntL p.n p.f = (takenL p).length + cntL p.n p.g := by
  have h1 := filter_split (fun i => !p.g i) (plc p.n 0 p.f true)
  have h2 : (plc p.n 0 p.f true).filter (fun i => !!p.g i) = plc p.n 0 p.g true := by
    rw [plc, plc, List.filter_filter]
    refine List.filter_congr fun i hi => ?_
    have hin : i < p.n := by
      have := (List.mem_range'_1.1 hi).2
      omega
    have := h.sub i hin
    revert this
    cases p.g i <;> cases p.f i <;> simp
  rw [h2] at h1
  exact h1
theorem Books.all (h : Books p out lim) (hk : p.Ok) : cntL p.n p.f = out.length + lim.length := by rw [cnt_split hk, h.lenO, h.lenL]
/-- A place that is handed out was neither out nor in limbo. -/
theorem Books.fresh (h : Books p out lim) (hk : p.Ok) {x : Nat} (hx : x < p.n ∧ p.f x = false) : ((p.a + x : Nat) : Int) ∉ out ∧ ((p.a + x : Nat) : Int) ∉ lim := by
  constructor
  · intro hm
    obtain ⟨i, h1, e, h2, _⟩ := (h.isO _).1 hm
    have : x = i := by omega
    rw [this, h2] at hx
    cases hx.2
  · intro hm
    obtain ⟨i, h1, e, h2⟩ := (h.isL _).1 hm
    have : x = i := by omega
    have h3 := hk.sub i h1 h2
    rw [this, h3] at hx
    cases hx.2
theorem onL_iff {zs : List Int} {i : Nat} (hi : i < p.n) : onL p zs i = true ↔ ((p.a + i : Nat) : Int) ∈ zs := by
  rw [onL, decide_eq_true_iff]
  exact ⟨fun h => h.2, fun h => ⟨hi, h⟩⟩
theorem Books.take (h : Books p out lim) (hk : p.Ok) {l : List Nat} (hl : ∀ x ∈ l, x < p.n ∧ p.f x = false) (hn : l.Nodup) : Books (takeAll p (intsOf (placesL p l))) (out ++ intsOf (placesL p l)) lim := by
  refine ⟨fun z => ?_, h.isL, ?_, h.nL⟩
  · rw [List.mem_append, h.isO, mem_places]
    constructor
    · rintro (⟨i, h1, e, h2, h3⟩ | ⟨i, hi, e⟩)
      · exact ⟨i, h1, e, by show (p.f i || _) = true; rw [h2]; rfl, h3⟩
      · obtain ⟨h1, h2⟩ := hl i hi
        refine ⟨i, h1, e, ?_, ?_⟩
        · show (p.f i || onL p _ i) = true
          rw [(onL_iff h1).2 (mem_places.2 ⟨i, hi, rfl⟩), Bool.or_true]
        · show p.g i = false
          cases hg : p.g i with
          | false => rfl
          | true => rw [hk.sub i h1 hg] at h2; cases h2
    · rintro ⟨i, h1, e, h2, h3⟩
      have h2 : (p.f i || onL p (intsOf (placesL p l)) i) = true := h2
      rw [Bool.or_eq_true] at h2
      rcases h2 with h2 | h2
      · exact .inl ⟨i, h1, e, h2, h3⟩
      · obtain ⟨j, hj, e2⟩ := mem_places.1 ((onL_iff h1).1 h2)
        exact .inr ⟨j, hj, e.trans e2⟩
  · rw [List.nodup_append]
    refine ⟨h.nO, nodup_places hn, ?_⟩
    rintro a ha b hb rfl
    obtain ⟨i, hi, e⟩ := mem_places.1 hb
    rw [e] at ha
    exact (h.fresh hk (hl i hi)).1 ha
theorem mem_without {l gone : List Int} {z : Int} : z ∈ withoutL l gone ↔ z ∈ l ∧ z ∉ gone := by
  rw [withoutL, List.mem_filter]
  simp
theorem Books.give (h : Books p out lim) (L : List Int) : Books (giveAll p L) (withoutL out L) lim := by
  refine ⟨fun z => ?_, h.isL, h.nO.filter _, h.nL⟩
  rw [mem_without, h.isO]
  constructor
  · rintro ⟨⟨i, h1, e, h2, h3⟩, hz⟩
    refine ⟨i, h1, e, ?_, h3⟩
    show (p.f i && (!(onL p L i) || p.g i)) = true
    have : onL p L i = false := by
      cases ho : onL p L i with
      | false => rfl
      | true => exact absurd ((onL_iff h1).1 ho) (e ▸ hz)
    rw [h2, this]; rfl
  · rintro ⟨i, h1, e, h2, h3⟩
    have h2 : (p.f i && (!(onL p L i) || p.g i)) = true := h2
    have h3 : p.g i = false := h3
    rw [h3, Bool.or_false, Bool.and_eq_true] at h2
    refine ⟨⟨i, h1, e, h2.1, h3⟩, fun hz => ?_⟩
    have := (onL_iff (p := p) h1).2 (e ▸ hz)
    rw [this] at h2
    cases h2.2
/-- What the law lays into its list of limbo. -/
def laterL (out : List Int) : List Int → List Int → List Int
  | lim, [] => lim
  | lim, z :: L => laterL out (if z ∈ out ∧ z ∉ lim then lim ++ [z] else lim) L
theorem mem_later (out : List Int) {z : Int} : ∀ (L lim : List Int), z ∈ laterL out lim L ↔ z ∈ lim ∨ (z ∈ L ∧ z ∈ out)
  | [], lim => by simp [laterL]
  | y :: L, lim => by
    rw [laterL, mem_later out L, List.mem_cons]
    by_cases e : y ∈ out ∧ y ∉ lim
    · rw [if_pos e, List.mem_append, List.mem_singleton]
      constructor
      · rintro ((h | rfl) | ⟨h1, h2⟩)
        · exact .inl h
        · exact .inr ⟨.inl rfl, e.1⟩
        · exact .inr ⟨.inr h1, h2⟩
      · rintro (h | ⟨rfl | h1, h2⟩)
        · exact .inl (.inl h)
        · exact .inl (.inr rfl)
        · exact .inr ⟨h1, h2⟩
    · rw [if_neg e]
      constructor
      · rintro (h | ⟨h1, h2⟩)
        · exact .inl h
        · exact .inr ⟨.inr h1, h2⟩
      · rintro (h | ⟨rfl | h1, h2⟩)
        · exact .inl h
        · exact .inl (by
            rcases Classical.em (z ∈ lim) with h | h
            · exact h
            · exact absurd ⟨h2, h⟩ e)
        · exact .inr ⟨h1, h2⟩
theorem nodup_later (out : List Int) : ∀ (L lim : List Int), lim.Nodup → (laterL out lim L).Nodup
  | [], _, h => h
  | y :: L, lim, h => by
    rw [laterL]
    refine nodup_later out L _ ?_
    split
    · rename_i e
      rw [List.nodup_append]
      refine ⟨h, by simp, ?_⟩
      rintro a ha b hb rfl
      rw [List.mem_singleton.1 hb] at ha
      exact e.2 ha
    · exact h
theorem len_later (out : List Int) : ∀ (L lim : List Int), (laterL out lim L).length ≤ lim.length + L.length
  | [], lim => Nat.le_refl _
  | y :: L, lim => by
    rw [laterL]
    refine Nat.le_trans (len_later out L _) ?_
    split
    · simp; omega
    · simp
theorem Books.later (h : Books p out lim) (hk : p.Ok) (L : List Int) : Books (laterAll p L) (withoutL out L) (laterL out lim L) := by
  refine ⟨fun z => ?_, fun z => ?_, h.nO.filter _, nodup_later _ _ _ h.nL⟩
  · rw [mem_without, h.isO]
    constructor
    · rintro ⟨⟨i, h1, e, h2, h3⟩, hz⟩
      refine ⟨i, h1, e, h2, ?_⟩
      show (p.g i || (onL p L i && p.f i)) = false
      have : onL p L i = false := by
        cases ho : onL p L i with
        | false => rfl
        | true => exact absurd ((onL_iff h1).1 ho) (e ▸ hz)
      rw [h3, this]; rfl
    · rintro ⟨i, h1, e, h2, h3⟩
      have h3 : (p.g i || (onL p L i && p.f i)) = false := h3
      have h2 : p.f i = true := h2
      rw [h2, Bool.and_true, Bool.or_eq_false_iff] at h3
      refine ⟨⟨i, h1, e, h2, h3.1⟩, fun hz => ?_⟩
      have := (onL_iff (p := p) h1).2 (e ▸ hz)
      rw [this] at h3
      cases h3.2
  · rw [mem_later, h.isL, h.isO]
    constructor
    · rintro (⟨i, h1, e, h2⟩ | ⟨hz, i, h1, e, h2, h3⟩)
      · exact ⟨i, h1, e, by show (p.g i || _) = true; rw [h2]; rfl⟩
      · refine ⟨i, h1, e, ?_⟩
        show (p.g i || (onL p L i && p.f i)) = true
        rw [(onL_iff (p := p) h1).2 (e ▸ hz), h2, Bool.and_true, Bool.or_true]
    · rintro ⟨i, h1, e, h2⟩
      have h2 : (p.g i || (onL p L i && p.f i)) = true := h2
      cases hg : p.g i with
      | true => exact .inl ⟨i, h1, e, hg⟩
      | false =>
        rw [hg, Bool.false_or, Bool.and_eq_true] at h2
        exact .inr ⟨e ▸ (onL_iff h1).1 h2.1, i, h1, e, h2.2, hg⟩
theorem Books.settle (h : Books p out lim) : Books (settledP p) out [] := by
  refine ⟨fun z => ?_, fun z => ?_, h.nO, List.nodup_nil⟩
  · rw [h.isO]
    constructor
    · rintro ⟨i, h1, e, h2, h3⟩
      exact ⟨i, h1, e, by show (p.f i && !(p.g i)) = true; rw [h2, h3]; rfl, rfl⟩
    · rintro ⟨i, h1, e, h2, _⟩
      have h2 : (p.f i && !(p.g i)) = true := h2
      rw [Bool.and_eq_true] at h2
      exact ⟨i, h1, e, h2.1, by simpa using h2.2⟩
  · constructor
    · intro h; cases h
    · rintro ⟨i, _, _, h⟩; cases h
theorem Books.new (a n : Nat) : Books (newP a n) [] [] := by
  refine ⟨fun z => ?_, fun z => ?_, List.nodup_nil, List.nodup_nil⟩
  · constructor
    · intro h; cases h
    · rintro ⟨i, _, _, h, _⟩; cases h
  · constructor
    · intro h; cases h
    · rintro ⟨i, _, _, h⟩; cases h
/-- What the law asks of each place that is handed out. -/
theorem Books.each (h : Books p out lim) (hk : p.Ok) {l : List Nat} (hl : ∀ x ∈ l, x < p.n ∧ p.f x = false) (hn : l.Nodup) {k : Nat} (hkl : k < l.length) :
    ∃ z, (intsOf (placesL p l)).getD k 0 = z ∧ decide (z ∈ out) = false ∧ decide (z ∈ lim) = false ∧ decide (z ∈ (intsOf (placesL p l)).take k) = false ∧ (p.a : Int) ≤ z ∧ z < (p.a : Int) + (p.n : Int) := by
  have hkz : k < (intsOf (placesL p l)).length := by rw [intsOf_length, placesL, List.length_map]; exact hkl
  have e : (intsOf (placesL p l)).getD k 0 = ((p.a + l[k] : Nat) : Int) := by
    rw [List.getD_eq_getElem?_getD, List.getElem?_eq_getElem hkz]
    simp [intsOf, placesL]
  obtain ⟨h1, h2⟩ := hl l[k] (List.getElem_mem hkl)
  obtain ⟨f1, f2⟩ := h.fresh hk ⟨h1, h2⟩
  refine ⟨_, e, decide_eq_false f1, decide_eq_false f2, decide_eq_false ?_, by omega, by omega⟩
  intro hm
  obtain ⟨j, hj, ej⟩ := List.getElem_of_mem hm
  rw [List.length_take] at hj
  have hjl : j < l.length := by omega
  rw [List.getElem_take] at ej
  have e2 : ((p.a + l[j] : Nat) : Int) = ((p.a + l[k] : Nat) : Int) := by
    rw [← ej]
    simp [intsOf, placesL]
  have e3 : l[j] = l[k] := by omega
  exact List.pairwise_iff_getElem.1 (List.nodup_iff_pairwise_ne.1 hn) j k hjl hkl (by omega) e3
theorem takeAll_nil (p : Ps) : takeAll p [] = p := Ps.ext rfl rfl rfl rfl (fun i => by show (p.f i || onL p [] i) = p.f i; rw [onL_nil, Bool.or_false]) (fun _ => rfl)
theorem leastD_nodup {n : Nat} {f : Nat → Bool} {y : Int} : (leastD n f y).Nodup := by
  unfold leastD
  split
  · exact List.nodup_nil
  · unfold leastL
    split
    · exact plc_nodup.sublist (List.take_sublist _ _)
    · exact List.nodup_nil
end
/-- What Take answers of any number, in one form. -/
def RetTk (W : World) (S : Nat → Prop) (P : Nat) (p : Ps) (w : World) (e : Ending) (w' : World) : Prop :=
  ∃ (A : Option Addr) (c m : Nat) (l : List Nat) (er : Int), e = .returned (.tuple #[.slice A m c, .int .i64 er]) ∧ l.length = m ∧ m ≤ 400 ∧ (er = 0 ∨ (er ≠ 0 ∧ m = 0)) ∧ Sl w' 1 A m c (icells (intsOf (placesL p l))) ∧ Lw14 W w' S P (takeAll p (intsOf (placesL p l))) ∧ Fr S w w' ∧ (∀ x ∈ l, x < p.n ∧ p.f x = false) ∧ l.Nodup
theorem take14_all {W w : World} {S : Nat → Prop} {P : Nat} {p : Ps} (z : Int) (hz : z < 9223372036854775808) (h : Lw14 W w S P p) (hN : Tz W) :
    Calls Tryd.prog 8 #[.pointer (some ⟨P, 0, none⟩), .int .i64 z] w (RetTk W S P p w) := by
  by_cases h0 : z < 0
  · refine (take_neg S P p z h0 w h.pl).mono ?_
    rintro e w' ⟨rfl, rfl⟩
    exact ⟨none, 0, 0, [], 2, rfl, rfl, by omega, .inr ⟨by decide, rfl⟩, Sl.nil _ 1 0 (by decide), (takeAll_nil p).symm ▸ h, Fr.refl _ _, (fun x hx => by cases hx), List.nodup_nil⟩
  · refine (take_any S P p z (by omega) hz w h.pl (h.tz hN)).mono ?_
    rintro e w' (⟨_, rfl, hb⟩ | ⟨_, b, rfl, hr, hb, hp, hf⟩)
    · exact ⟨none, 0, 0, [], 140, rfl, rfl, by omega, .inr ⟨by decide, rfl⟩, Sl.nil _ 1 0 (by decide), (takeAll_nil p).symm ▸ h.later hb, Fr.of_below hb, (fun x hx => by cases hx), List.nodup_nil⟩
    · refine ⟨_, _, _, leastD p.n p.f z, 0, rfl, rfl, ?_, .inl rfl, by rw [intsOf, ← ncells_icells]; exact hr.sl, h.mut hp hf, hf, fun x hx => leastD_mem hx, leastD_nodup⟩
      have h2 := h.pl.ok.n2
      have h3 : (leastD p.n p.f z).length ≤ p.n := by
        unfold leastD
        split
        · simp
        · unfold leastL
          split
          · rw [List.length_take]
            have := plc_len_le (n := p.n) (a := 0) (f := p.f) (t := false)
            omega
          · simp
      omega
theorem Sl.takeI {w : World} {A : Option Addr} {m c k : Nat} {zs : List Int} (h : Sl w 1 A m c (icells zs)) (hk : k ≤ m) : Sl w 1 A k c (icells (zs.take k)) := by
  have hl := h.len
  rw [icells_length, Nat.mul_one] at hl
  refine ⟨by rw [icells_length, List.length_take]; omega, by have := h.cap; omega, h.top, fun j u hu => ?_⟩
  have hj : j < k := by
    have := (List.getElem?_eq_some_iff.1 hu).1
    rw [icells_length, List.length_take] at this
    omega
  refine h.cell j u ?_
  rw [← hu, icells, icells, List.map_take, List.getElem?_take_of_lt hj]

/-- What the law's memory holds at the head of a round: its pool, what is out, what is in limbo, each in blocks of its own. -/
structure Mem14 (W w : World) (S : Nat → Prop) (P a n : Nat) (p : Ps) (oA : Option Addr) (oc : Nat) (out : List Int) (lA : Option Addr) (lc : Nat) (lim : List Int) : Prop where
  lw : Lw14 W w S P p
  pn : p.n = n
  pa : p.a = a
  ro : Rn w oA 3 1 out.length oc (icells out)
  rl : Rn w lA 3 1 lim.length lc (icells lim)
  oS : ∀ b, Bk oA b → ¬ S b ∧ W.heap.size ≤ b
  lS : ∀ b, Bk lA b → ¬ S b ∧ W.heap.size ≤ b
  ol : ∀ b, Bk oA b → ¬ Bk lA b
section
variable {W w w' : World} {S : Nat → Prop} {P a n : Nat} {p q : Ps} {oA lA A' : Option Addr} {oc lc c' : Nat} {out lim out' lim' : List Int}
theorem Mem14.later (h : Mem14 W w S P a n p oA oc out lA lc lim) (hb : Below w.heap.size w w') : Mem14 W w' S P a n p oA oc out lA lc lim :=
  ⟨h.lw.later hb, h.pn, h.pa, h.ro.later hb, h.rl.later hb, h.oS, h.lS, h.ol⟩
theorem Mem14.turn (h : Mem14 W w S P a n p oA oc out lA lc lim) (hp : Pl w' S P q) (hn : q.n = p.n) (ha : q.a = p.a) (hf : Fr S w w') : Mem14 W w' S P a n q oA oc out lA lc lim :=
  ⟨h.lw.mut hp hf, hn.trans h.pn, ha.trans h.pa, h.ro.fr hf fun b hb => (h.oS b hb).1, h.rl.fr hf fun b hb => (h.lS b hb).1, h.oS, h.lS, h.ol⟩
theorem Bk.new {k b : Nat} (h : Bk (some ⟨k, 0, none⟩) b) : b = k := by
  obtain ⟨o, e⟩ := h
  injection e with e
  injection e with e _
  exact e.symm
theorem Mem14.outNew (h : Mem14 W w S P a n p oA oc out lA lc lim) (hr : Rn w' A' 3 1 out'.length c' (icells out')) (hf : Fr (Bk oA) w w') (hA : A' = oA ∨ A' = some ⟨w.heap.size, 0, none⟩) : Mem14 W w' S P a n p A' c' out' lA lc lim := by
  refine ⟨⟨h.lw.pl.fr hf fun b hb k => (h.oS b k).1 hb, h.lw.bel.trans (hf.below h.lw.bel.size fun b hb => (h.oS b hb).2), h.lw.lo⟩, h.pn, h.pa, hr, h.rl.fr hf fun b hb k => h.ol b k hb, ?_, h.lS, ?_⟩
  · rcases hA with rfl | rfl
    · exact h.oS
    · intro b hb
      have e := hb.new
      exact ⟨fun k => by have := h.lw.pl.lt b k; omega, by have := h.lw.bel.size; omega⟩
  · rcases hA with rfl | rfl
    · exact h.ol
    · intro b hb k
      have e := hb.new
      have := h.rl.lt k
      omega
theorem Mem14.limNew (h : Mem14 W w S P a n p oA oc out lA lc lim) (hr : Rn w' A' 3 1 lim'.length c' (icells lim')) (hf : Fr (Bk lA) w w') (hA : A' = lA ∨ A' = some ⟨w.heap.size, 0, none⟩) : Mem14 W w' S P a n p oA oc out A' c' lim' := by
  refine ⟨⟨h.lw.pl.fr hf fun b hb k => (h.lS b k).1 hb, h.lw.bel.trans (hf.below h.lw.bel.size fun b hb => (h.lS b hb).2), h.lw.lo⟩, h.pn, h.pa, h.ro.fr hf fun b hb k => h.ol b hb k, hr, h.oS, ?_, ?_⟩
  · rcases hA with rfl | rfl
    · exact h.lS
    · intro b hb
      have e := hb.new
      exact ⟨fun k => by have := h.lw.pl.lt b k; omega, by have := h.lw.bel.size; omega⟩
  · rcases hA with rfl | rfl
    · exact h.ol
    · intro b hb k
      have e := k.new
      have := h.ro.lt hb
      omega
theorem Mem14.outFresh (h : Mem14 W w S P a n p oA oc out lA lc lim) (hr : Rn w' A' 3 1 out'.length c' (icells out')) (hb : Below w.heap.size w w') (hA : ∀ b, Bk A' b → w.heap.size ≤ b) : Mem14 W w' S P a n p A' c' out' lA lc lim := by
  refine ⟨h.lw.later hb, h.pn, h.pa, hr, h.rl.later hb, fun b k => ⟨fun hs => ?_, ?_⟩, h.lS, fun b k l => ?_⟩
  · have := hA b k
    have := h.lw.pl.lt b hs
    omega
  · have := hA b k
    have := h.lw.bel.size
    omega
  · have := hA b k
    have := h.rl.lt l
    omega
theorem Mem14.limNil (h : Mem14 W w S P a n p oA oc out lA lc lim) : Mem14 W w S P a n p oA oc out none 0 [] :=
  ⟨h.lw, h.pn, h.pa, h.ro, .inl ⟨rfl, rfl, rfl, rfl⟩, h.oS, (fun b hb => by obtain ⟨o, e⟩ := hb; cases e), (fun b _ hb => by obtain ⟨o, e⟩ := hb; cases e)⟩
theorem Mem14.few (h : Mem14 W w S P a n p oA oc out lA lc lim) (hk : Books p out lim) : out.length ≤ 400 ∧ lim.length ≤ 400 := by
  have h1 := hk.all h.lw.pl.ok
  have h2 := plc_len_le (n := p.n) (a := 0) (f := p.f) (t := true)
  have h3 := h.lw.pl.ok.n2
  unfold cntL at h1
  omega
end
theorem step_lt14 {ρ : Operand → Value} {o : Oper} {x y : Operand} {w : World} {a b : Int} {t u : TypeId} {r : Bool} (ho : o.op = .binOp .lss t x y u) (hx : ρ x = .int .i64 a) (hy : ρ y = .int .i64 b) (hr : decide (a < b) = r) : (execOp ρ o).run Tryd.prog w = .ok (.value (.bool r)) w := by
  subst hr
  unfold execOp
  simp [ho, hx, hy, go_sem]
theorem step_ge14 {ρ : Operand → Value} {o : Oper} {x y : Operand} {w : World} {a b : Int} {t u : TypeId} {r : Bool} (ho : o.op = .binOp .geq t x y u) (hx : ρ x = .int .i64 a) (hy : ρ y = .int .i64 b) (hr : decide (b ≤ a) = r) : (execOp ρ o).run Tryd.prog w = .ok (.value (.bool r)) w := by
  subst hr
  unfold execOp
  simp [ho, hx, hy, go_sem]
theorem step_add14 {ρ : Operand → Value} {o : Oper} {x y : Operand} {w : World} {a b c : Int} {t u : TypeId} (ho : o.op = .binOp .add t x y u) (hx : ρ x = .int .i64 a) (hy : ρ y = .int .i64 b) (hw : IntKind.i64.wrap (a + b) = c) : (execOp ρ o).run Tryd.prog w = .ok (.value (.int .i64 c)) w := by
  subst hw
  unfold execOp
  simp [ho, hx, hy, go_sem]
end Go.Proofs.YtgkdpljlgdlekaaDoor

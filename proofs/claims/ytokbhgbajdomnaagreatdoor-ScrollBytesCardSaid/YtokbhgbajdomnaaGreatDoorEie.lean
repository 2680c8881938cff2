/-
  The contracts of package scroll's follow and Get: of a text whose stripes are good enough, and of one that lost one of them. Conditions: bounds. (Written by gen_eie.py.)
-/
import Derived.Test.YtokbhgbajdomnaaGreatDoorEid
import Derived.Test.YtokbhgbajdomnaaGreatDoorEhi
import Derived.WalkMore
import Derived.Deep.DeepCutAuto
set_option linter.unusedVariables false
set_option maxRecDepth 20000
set_option maxHeartbeats 6400000
namespace Go.Proofs.YtokbhgbajdomnaaGreatDoor
open Go.RowKit Go.Proofs
theorem Rw.empty16 (w : World) (q : Nat) (hq : q ≤ 1000000) : Rw (w.alloc (.cells (madeCells #[.int .u8 0] q) 5)) w.heap.size 5 1 0 q [] :=
 ⟨⟨_, heap_alloc_new w _, by rw [size_madeCells, Nat.mul_one], rfl⟩, Nat.zero_le _, by unfold maxLen; omega⟩
theorem Rw.emptyI16 (w : World) (q : Nat) (hq : q ≤ 1000000) : Rw (w.alloc (.cells (madeCells #[.int .i64 0] q) 3)) w.heap.size 3 1 0 q [] :=
 ⟨⟨_, heap_alloc_new w _, by rw [size_madeCells, Nat.mul_one], rfl⟩, Nat.zero_le _, by unfold maxLen; omega⟩
theorem makei0_16 (z : Int) (n : Nat) (hz : z = (n : Int)) (hn : n ≤ 1048576) (w : World) :
  (Instr.makeSlice 39 (.int .i64 0) (.int .i64 z)).run Tryz.prog w = .ok (.slice (some ⟨w.heap.size, 0, none⟩) 0 n) (w.alloc (.cells (madeCells #[.int .i64 0] n) 3)) := by
 obtain ⟨i0, hi, hz0, hz1, hz2⟩ := info_parts info_i
 subst hz
 have h := run_make (P := Tryz.prog) w 39 3 i0 (.int .i64 0) Tryz.underlying39 hi hz0 .i64 .i64 0 (n : Int) (by omega) (by omega) (by rw [hz2]; omega) (by omega)
 rw [hz1, Nat.mul_one, Int.toNat_natCast] at h
 exact h
theorem Rn.ne16 {w : World} {A A' : Option Addr} {T T' : TypeId} {k k' n n' c c' : Nat} {xs ys : List Value} (h : Rn w A T k n c xs) (h' : Rn w A' T' k' n' c' ys) (hT : T ≠ T') {b : Nat} (hb : Bk A b) : ¬ Bk A' b := by
 intro hb'
 obtain ⟨o, ho⟩ := hb
 obtain ⟨o', ho'⟩ := hb'
 rcases h with ⟨_, e, _⟩ | ⟨g, e, hr⟩
 ·rw [e] at ho; cases ho
 rcases h' with ⟨_, e', _⟩ | ⟨g', e', hr'⟩
 ·rw [e'] at ho'; cases ho'
 rw [e] at ho
 rw [e'] at ho'
 injection ho with ho
 injection ho with h1 _
 injection ho' with ho'
 injection ho' with h2 _
 subst h1 h2
 obtain ⟨cur, h3, _⟩ := hr.ex
 obtain ⟨cur', h4, _⟩ := hr'.ex
 rw [h3] at h4
 injection h4 with h4
 injection h4 with _ h5 _
 exact hT h5
theorem Rn.len16 {w : World} {A : Option Addr} {T : TypeId} {n c : Nat} {xs : List Value} (h : Rn w A T 1 n c xs) : n = xs.length := by
 have := h.sl.len
 omega
theorem flds_ref16 : (Tryz.prog.fieldsOf 99).toList.map (fun f => (decide (f.name ≠ "_"), f.type, f.offset)) = [(true, 5, 0), (true, 3, 1), (true, 36, 2)] := by kernel_rfl
theorem und_ref16 : Tryz.prog.underlying 99 = some (.struct (Tryz.prog.fieldsOf 99)) := by kernel_rfl
theorem stood_ref16 : Tryz.prog.stoodInHeld 99 = false := by kernel_rfl
theorem eq_ref16 (w : World) (r : Int × Int × Int) : (Op.equalIn 10000 99 (.agg (r3c r).toArray) (.agg (r3c r).toArray)).run Tryz.prog w = .ok true w := by
 have h0 := run_equalIn_struct (P := Tryz.prog) w 9999 99 (r3c r).toArray (r3c r).toArray und_ref16 stood_ref16
 rw [eqFields_trip, flds_ref16] at h0
 refine h0.trans ?_
 have h3 := eqTrip_int (P := Tryz.prog) (d := 9998) w Tryz.underlying5 (o := 0) (a := r.1) (b := r.1) (xs := (r3c r).toArray) (ys := (r3c r).toArray) rfl rfl _ (eqTrip_int w Tryz.underlying3 (o := 1) (a := r.2.1) (b := r.2.1) rfl rfl _ (eqTrip_int w Tryz.underlying36 (o := 2) (a := r.2.2) (b := r.2.2) rfl rfl [] (r := true) rfl))
 simpa using h3
theorem eqg_ref16 : Tryz.prog.eqGuardType Tryz.prog.depth 99 = false := by kernel_rfl
theorem step_ner16 {ρ : Operand → Value} {o : Oper} {x y : Operand} {w : World} {r : Int × Int × Int} {T : TypeId} (ho : o.op = .binOp .neq 99 x y T) (hx : ρ x = .agg (r3c r).toArray) (hy : ρ y = .agg (r3c r).toArray) : (execOp ρ o).run Tryz.prog w = .ok (.value (.bool false)) w := by
 have h : (binOp .neq 99 (.agg (r3c r).toArray) (.agg (r3c r).toArray)).run Tryz.prog w = .ok (.bool false) w := by rw [run_neq_struct, eq_ref16]; rfl
 have g := fun op => run_eqGuard_agg (P := Tryz.prog) w op 99 x y (r3c r).toArray (r3c r).toArray eqg_ref16
 unfold execOp
 simp [ho, hx, hy, h, g, Result.andThen]
theorem wp_appI16 {o : Oper} {a : Act} {K : Act → World → Prop} {Q : Exit → Act → World → Prop} {w : World} {A : Option Addr} {n c : Nat} {xs : List Value} (s x : Operand)
  (ho : o.op = .call { callee := .builtin .append, args := #[s, x], argTypes := #[39, 39] })
  (hv : a.eval s = .slice A n c) (h : Rn w A 3 1 n c xs) (A2 : Option Addr) (m c2 : Nat) (ys : List Nat) (hx : a.eval x = .slice A2 m c2) (hs : Sl w 1 A2 m c2 (ncells ys)) (q : Nat) (hq : q = n + m) (h20 : q ≤ 1000000)
  (hk : ∀ A' c' w', Rn w' A' 3 1 q c' (xs ++ ncells ys) → Fr (Bk A) w w' → (A' = A ∨ A' = some ⟨w.heap.size, 0, none⟩) → K (a.put o.dst (.slice A' q c')) w') : o.wp Tryz.prog a w K Q := by
 subst hq
 obtain ⟨i0, hi, hz0, hz1, hz2⟩ := info_parts info_i
 exact wp_append_rn s x _ _ ho i0 (.int .i64 0) 8 Tryz.underlying39 hi hz0 hz1 hz2 rfl (by decide) hv h _ m (ncells ys) hx (hs.src Tryz.underlying39 (by decide) (ncells_one ys)) (by unfold maxLen; omega) (by omega) hk
theorem ncells_append16 (p q : List Nat) : ncells (p ++ q) = ncells p ++ ncells q := List.map_append
theorem take_getD16 {l : List Nat} {i : Nat} (h : i < l.length) : l.take i ++ [l.getD i 0] = l.take (i + 1) := by
 rw [List.take_add_one, List.getD_eq_getElem?_getD, List.getElem?_eq_getElem h]
 rfl
theorem Rf13.c1_16 {w : World} {B : Nat} {k p g : Int} (h : Rf13 w B k p g) : w.cell? ⟨B, 1, none⟩ = some (.int .i64 p) := by rw [cell_of_row _ _ _ _ _ _ h]; rfl
def atP (ps : List Nat) (i : Nat) : Nat := if i < ps.length then ps.getD i 0 else 0
def atG (ps : List Nat) (g i : Nat) : Nat := if i < ps.length then g + i else 0
theorem leaf_next {k N g i : Nat} {ps : List Nat} {b : List UInt8} (h : VOk k N ps g) (hi : i < ps.length) : leVal ((leafL k ps g b i).take 2) = atP ps (i + 1) ∧ leVal (((leafL k ps g b i).drop 2).take 8) = atG ps g (i + 1) ∧ atP ps (i + 1) < 65536 ∧ atG ps g (i + 1) < 18446744073709551616 := by
 unfold atP atG leafL linkL
 have h1 := h.gle
 by_cases hl : i + 1 < ps.length
 ·have h2 := h.at_ (i + 1) hl
  have h3 := h.Nle
  rw [if_pos hl, if_pos hl, if_pos hl]
  exact ⟨name_place (by omega), name_gen (by omega), by omega, by omega⟩
 ·rw [if_neg hl, if_neg hl, if_neg hl]
  exact ⟨name_place (by decide), name_gen (by decide), by decide, by decide⟩
section
variable {Rep : World → (Nat → Prop) → Nat → Dv → Prop} {Good : Nat → Nat → (Nat → Bool) → Prop} {w w' : World} {S : Nat → Prop} {A C k m F T N : Nat} {xs : List Dv}
def RetGet16 (ps : List Nat) (b : List UInt8) (q n i0 : Nat) (w : World) (e : Ending) (w' : World) : Prop :=
 (n ≤ i0 ∧ ∃ A2 c2 A3 c3, e = .returned (.tuple #[.slice A2 q c2, .slice A3 n c3, .int .i64 0]) ∧ Sl w' 1 A2 q c2 (cells b) ∧ Sl w' 1 A3 n c3 (ncells ps) ∧ Below w.heap.size w w' ∧ (∀ bb, Bk A2 bb ∨ Bk A3 bb → w.heap.size ≤ bb)) ∨
 (i0 < n ∧ e = .returned (.tuple #[.slice none 0 0, .slice none 0 0, .int .i64 130]) ∧ Below w.heap.size w w')
structure Fo16 (Rep : World → (Nat → Prop) → Nat → Dv → Prop) (w w' : World) (S : Nat → Prop) (A C k m F T N : Nat) (xs : List Dv) (B Y : Nat) (p0 g n q ap ag : Int) (A2 : Option Addr) (n2 c2 : Nat) (l2 : List UInt8) (A3 : Option Addr) (n3 c3 : Nat) (l3 : List Nat) : Prop where
 ac : Ac13 Rep w' S A C k m F T N xs
 bel : Below w.heap.size w w'
 x : Sc16 w' B p0 g n q
 y : Rf13 w' Y 4 ap ag
 t : Rn w' A2 5 1 n2 c2 (cells l2)
 u : Rn w' A3 3 1 n3 c3 (ncells l3)
 off : ∀ bb, Bk A2 bb ∨ Bk A3 bb → w.heap.size ≤ bb ∧ bb ≠ B ∧ bb ≠ Y
 sep : ∀ bb, S bb ∨ bb = C ∨ bb = F ∨ bb = T ∨ bb = 1 → bb < w.heap.size
 lo : w.heap.size ≤ B ∧ w.heap.size ≤ Y ∧ B ≠ Y
variable {B Y : Nat} {p0 g n q ap ag : Int} {A2 A3 A' : Option Addr} {n2 c2 n3 c3 n' c' : Nat} {l2 l' : List UInt8} {l3 m' : List Nat} {w'' : World}
theorem Fo16.later (DK : DrvK Rep) (h : Fo16 Rep w w' S A C k m F T N xs B Y p0 g n q ap ag A2 n2 c2 l2 A3 n3 c3 l3) (hb : Below w'.heap.size w' w'') : Fo16 Rep w w'' S A C k m F T N xs B Y p0 g n q ap ag A2 n2 c2 l2 A3 n3 c3 l3 :=
 ⟨h.ac.later DK hb, h.bel.trans (hb.mono h.bel.size), h.x.later hb, (hb.block _ (block_lt h.y)).trans h.y, h.t.later hb, h.u.later hb, h.off, h.sep, h.lo⟩
theorem bk_nx {w : World} {A A' : Option Addr} (h : A' = A ∨ A' = some ⟨w.heap.size, 0, none⟩) {x : Nat} (hx : Bk A' x) : Bk A x ∨ x = w.heap.size := by
 rcases h with e | e
 ·exact .inl (e ▸ hx)
 ·rw [e] at hx
  obtain ⟨o, hx⟩ := hx
  injection hx with hx
  injection hx with hx _
  exact .inr hx.symm
theorem Fo16.text (DK : DrvK Rep) (h : Fo16 Rep w w' S A C k m F T N xs B Y p0 g n q ap ag A2 n2 c2 l2 A3 n3 c3 l3) (hr : Rn w'' A' 5 1 n' c' (cells l')) (hf : Fr (Bk A2) w' w'') (ho : A' = A2 ∨ A' = some ⟨w'.heap.size, 0, none⟩) : Fo16 Rep w w'' S A C k m F T N xs B Y p0 g n q ap ag A' n' c' l' A3 n3 c3 l3 := by
 have hV : ∀ bb, Bk A2 bb → ¬ (S bb ∨ bb = C ∨ bb = F ∨ bb = T ∨ bb = 1) := fun bb hb hs => by have := (h.off bb (.inl hb)).1; have := h.sep bb hs; omega
 have hs := h.bel.size
 refine ⟨h.ac.box DK hf fun bb hb => ⟨fun q => hV bb hb (.inl q), fun q => hV bb hb (.inr (.inl q)), fun q => hV bb hb (.inr (.inr (.inl q))), fun q => hV bb hb (.inr (.inr (.inr (.inl q)))), fun q => hV bb hb (.inr (.inr (.inr (.inr q))))⟩, h.bel.trans (hf.below hs fun bb hb => (h.off bb (.inl hb)).1), h.x.fr hf fun hb => (h.off _ (.inl hb)).2.1 rfl, hf.row_some h.y fun hb => (h.off _ (.inl hb)).2.2 rfl, hr, h.u.fr hf fun bb hb => Rn.ne16 h.u h.t (by decide) hb, fun bb hb => ?_, h.sep, h.lo⟩
 rcases hb with hb | hb
 ·rcases bk_nx ho hb with hb | rfl
  ·exact h.off bb (.inl hb)
  ·have h1 := block_lt h.x
   have h2 := block_lt h.y
   exact ⟨hs, by omega, by omega⟩
 ·exact h.off bb (.inr hb)
theorem Fo16.ints (DK : DrvK Rep) (h : Fo16 Rep w w' S A C k m F T N xs B Y p0 g n q ap ag A2 n2 c2 l2 A3 n3 c3 l3) (hr : Rn w'' A' 3 1 n' c' (ncells m')) (hf : Fr (Bk A3) w' w'') (ho : A' = A3 ∨ A' = some ⟨w'.heap.size, 0, none⟩) : Fo16 Rep w w'' S A C k m F T N xs B Y p0 g n q ap ag A2 n2 c2 l2 A' n' c' m' := by
 have hV : ∀ bb, Bk A3 bb → ¬ (S bb ∨ bb = C ∨ bb = F ∨ bb = T ∨ bb = 1) := fun bb hb hs => by have := (h.off bb (.inr hb)).1; have := h.sep bb hs; omega
 have hs := h.bel.size
 refine ⟨h.ac.box DK hf fun bb hb => ⟨fun q => hV bb hb (.inl q), fun q => hV bb hb (.inr (.inl q)), fun q => hV bb hb (.inr (.inr (.inl q))), fun q => hV bb hb (.inr (.inr (.inr (.inl q)))), fun q => hV bb hb (.inr (.inr (.inr (.inr q))))⟩, h.bel.trans (hf.below hs fun bb hb => (h.off bb (.inr hb)).1), h.x.fr hf fun hb => (h.off _ (.inr hb)).2.1 rfl, hf.row_some h.y fun hb => (h.off _ (.inr hb)).2.2 rfl, h.t.fr hf fun bb hb => Rn.ne16 h.t h.u (by decide) hb, hr, fun bb hb => ?_, h.sep, h.lo⟩
 rcases hb with hb | hb
 ·exact h.off bb (.inl hb)
 ·rcases bk_nx ho hb with hb | rfl
  ·exact h.off bb (.inr hb)
  ·have h1 := block_lt h.x
   have h2 := block_lt h.y
   exact ⟨hs, by omega, by omega⟩
theorem Fo16.next (DK : DrvK Rep) {bp bg : Int} (h : Fo16 Rep w w' S A C k m F T N xs B Y p0 g n q ap ag A2 n2 c2 l2 A3 n3 c3 l3) : Fo16 Rep w (w'.setRow Y #[.int .u8 4, .int .i64 bp, .int .u64 bg]) S A C k m F T N xs B Y p0 g n q bp bg A2 n2 c2 l2 A3 n3 c3 l3 := by
 have hf : Fr (fun b => b = Y) w' (w'.setRow Y #[.int .u8 4, .int .i64 bp, .int .u64 bg]) := Fr.setRow1 _
 have hV : ∀ bb, bb = Y → ¬ (S bb ∨ bb = C ∨ bb = F ∨ bb = T ∨ bb = 1) := fun bb hb hs => by have := h.lo.2.1; have := h.sep bb hs; omega
 exact ⟨h.ac.box DK hf fun bb hb => ⟨fun q => hV bb hb (.inl q), fun q => hV bb hb (.inr (.inl q)), fun q => hV bb hb (.inr (.inr (.inl q))), fun q => hV bb hb (.inr (.inr (.inr (.inl q)))), fun q => hV bb hb (.inr (.inr (.inr (.inr q))))⟩, h.bel.trans (hf.below h.bel.size fun bb hb => by have hb : bb = Y := hb; have := h.lo.2.1; omega), h.x.fr hf h.lo.2.2, setRow_heap _ _ _ _ _ _ h.y, h.t.fr hf fun bb hb e => (h.off bb (.inl hb)).2.2 e, h.u.fr hf fun bb hb e => (h.off bb (.inr hb)).2.2 e, h.off, h.sep, h.lo⟩
def At16 (wa : World) (q n : Nat) (tv uv : Value) (wx : World) : Prop := ∃ tb ub, tv = .slice (some ⟨tb, 0, none⟩) 0 q ∧ uv = .slice (some ⟨ub, 0, none⟩) 0 n ∧ Rw wx tb 5 1 0 q [] ∧ Rw wx ub 3 1 0 n [] ∧ wa.heap.size ≤ tb ∧ wa.heap.size ≤ ub ∧ Fr (fun _ => False) wa wx
theorem follow16_any (DK : DrvK Rep) (SV : StrV Rep Good) (h : Ac13 Rep w S A C k m F T N xs) (r : Nat) (hr : 44 * k = r + 10) (ps : List Nat) (g : Nat) (b : List UInt8) (q n i0 p0 : Nat) (G : Nat → Nat → Bool) (hq : b.length = q) (hZ : q ≤ 1000000) (hn : countS r q = n) (hn4 : n ≤ 400) (hpl : ps.length = n) (hp0 : ps.getD 0 0 = p0)
  (hv : VOk k N ps g) (hval : ValT xs k (k + m) N 4 ps g (leafL k ps g b) G) (hG : ∀ i, i < n → i < i0 → Good k (k + m) (G i)) (hL : i0 < n → StrL Rep ∧ ¬ k ≤ cntG (k + m) (G i0)) :
  Calls Tryz.prog 71 #[.pointer (some ⟨A, 0, none⟩), .pointer (some ⟨C, 0, none⟩), .agg #[.int .i64 (p0 : Int), .int .u64 (g : Int), .int .i64 (n : Int), .int .i64 (q : Int)]] w (RetGet16 ps b q n i0 w) := by
 have hk := h.c.k1
 have hk255 := h.c.n255
 have hn1 : 0 < n := by rw [← hn]; exact countS_pos
 have hsep : ∀ bb, S bb ∨ bb = C ∨ bb = F ∨ bb = T ∨ bb = 1 → bb < w.heap.size := fun bb hs => by
  have h1 := block_lt h.c.row
  have h2 : F < w.heap.size := World.block_lt_of_cell? w _ h.c.fld.cell
  have h3 := h.c.fld.fld.ltT
  have h4 := h.nt.lt13
  rcases hs with hs | hs | hs | hs | hs
  ·exact h.a.old hs
  all_goals omega
 have H := qH h
 have HR := qH hr
 have HN := qH hn
 have HPL := qH hpl
 have HV := qH hv
 have HQ := qH hq
 have HVAL := qH hval
 have HGD := qH hG
 have HLS := qH hL
 have HSEP := qH hsep
 have HP0 := qH hp0
 have HRI := qH (show ∀ i, i < n → RefOk 4 (ps.getD i 0) (g + i) (leafL k ps g b i).length (44 * k) from fun i hi => hv.rT (leaf_ok hk) (by omega))
 have HAT := qH (show ∀ i, i < n → ps.getD i 0 < N from fun i hi => hv.at_ i (by omega))
 have HMK := qH (make0_eq (q : Int) q rfl (by omega))
 have HMI := qH (makei0_16 (n : Int) n rfl (by omega))
 obtain ⟨i0u, hi0, hz0, hz1, hz2⟩ := info_parts info_u8
 have Hi0 := qH hi0
 have Hz0 := qH hz0
 have Hz1 := qH hz1
 have Hz2 := qH hz2
 have sz := qH (size_ref13 4 (p0 : Int) (g : Int))
 have hxa := Sc16.new (w := w) (a := (p0 : Int)) (g := (g : Int)) (c := (n : Int)) (z := (q : Int))
 have hba : Below w.heap.size w (w.alloc (.cells #[.int .i64 (p0 : Int), .int .u64 (g : Int), .int .i64 (n : Int), .int .i64 (q : Int)] 38)) := (Below.refl _ _).alloc (Nat.le_refl _) _
 have HBA := qH hba
 have HXA := qH hxa
 clear h hr hn hpl hv hq hval hG hL hsep hp0 hi0 hz0 hz1 hz2 hxa hba
 go_enter Tryz.func71, Tryz.ntmps71
 go_wp2_with fail
 obtain ⟨wa, hwa⟩ : ∃ x, x = w.alloc (.cells #[.int .i64 (p0 : Int), .int .u64 (g : Int), .int .i64 (n : Int), .int .i64 (q : Int)] 38) := ⟨_, rfl⟩
 rw [← hwa] at HBA HXA ⊢
 clear hwa
 obtain ⟨B, hB⟩ : ∃ B, B = w.heap.size := ⟨_, rfl⟩
 rw [← hB] at HXA ⊢
 have HB := qH hB
 have C2 := qH HXA.out.c2
 have C3 := qH HXA.out.c3
 clear hB
 go_step3
 go_upto_region 1 with (fail)
 go_cut [9, 10] (fun tv uv wx => At16 wa q n tv uv wx)
 case first =>
  refine wp_region_held_drew (S := fun w' => Fr (fun _ => False) wa w') (by kernel_rfl) (Fr.drew (Fr.refl _ _)) (fun hHeld => ?_)
  clear hHeld
  have hHeld : Fr (fun _ => False) wa wa.drew := Fr.drew (Fr.refl _ _)
  have hz_0 : wa.heap.size ≤ wa.drew.heap.size := Nat.le_refl _
  obtain ⟨v_W0, hw⟩ : ∃ v_W0, v_W0 = wa.drew := ⟨_, rfl⟩
  rw [← hw] at hHeld hz_0  ⊢
  clear hw
  refine tA 0 (some 18) rfl hHeld ?_
  refine tA 1 (some 19) rfl hHeld ?_ (fun wq hSw => by
   have hq := hSw.cell_some C3.out (fun h => h)
   go_simp <;> with_reducible rfl)
  refine tA 3 (some 21) rfl hHeld ?_
  refine tA 4 (some 22) rfl hHeld ?_ (fun wq hSw => by
   have hq := hSw.cell_some C2.out (fun h => h)
   go_simp <;> with_reducible rfl)
  refine wpAnyH_ready (rs := [2, 5]) (by kernel_rfl) (by simp) ?_
  refine AllReadyH.cons (o := ⟨some 20, _, _, _, _, _⟩) rfl (fun K hK => ?_) (AllReadyH.cons (o := ⟨some 23, _, _, _, _, _⟩) rfl (fun K hK => ?_) (AllReadyH.nil))
  focus
   go_simp
   rw [HMK.out]
   go_simp
   have hbN : Below v_W0.heap.size v_W0 (v_W0.alloc (.cells (madeCells #[.int .u8 0] q) 5)) := (Below.refl _ _).alloc (Nat.le_refl _) _
   have hqv := Rw.empty16 v_W0 q hZ
   obtain ⟨v_W1, hw⟩ : ∃ x, x = v_W0.alloc (.cells (madeCells #[.int .u8 0] q) 5) := ⟨_, rfl⟩
   rw [← hw] at hbN hqv ⊢
   clear hw
   obtain ⟨tb, hvb⟩ : ∃ x, x = v_W0.heap.size := ⟨_, rfl⟩
   rw [← hvb] at hqv ⊢
   have hfN : Fr (fun _ => False) v_W0 v_W1 := Fr.of_below hbN
   have QT := qH hqv
   have HTB := qH (show wa.heap.size ≤ tb from by have := hHeld.size; omega)
   clear hqv hbN hvb
   have hHeld := hHeld.trans hfN
   have hz_3 := hfN.size
   refine hK.out _ _ hHeld fun _ => ?_
   clear hK K hfN
   try simp only [Act.put,sA,sB,sC]
   refine tA 6 (some 9) rfl hHeld ?_
  rotate_left
  focus
   go_simp
   rw [HMI.out]
   go_simp
   have hbN : Below v_W0.heap.size v_W0 (v_W0.alloc (.cells (madeCells #[.int .i64 0] n) 3)) := (Below.refl _ _).alloc (Nat.le_refl _) _
   have hqv := Rw.emptyI16 v_W0 n (by omega)
   obtain ⟨v_W1, hw⟩ : ∃ x, x = v_W0.alloc (.cells (madeCells #[.int .i64 0] n) 3) := ⟨_, rfl⟩
   rw [← hw] at hbN hqv ⊢
   clear hw
   obtain ⟨ub, hvb⟩ : ∃ x, x = v_W0.heap.size := ⟨_, rfl⟩
   rw [← hvb] at hqv ⊢
   have hfN : Fr (fun _ => False) v_W0 v_W1 := Fr.of_below hbN
   have QU := qH hqv
   have HUB := qH (show wa.heap.size ≤ ub from by have := hHeld.size; omega)
   clear hqv hbN hvb
   have hHeld := hHeld.trans hfN
   have hz_5 := hfN.size
   refine hK.out _ _ hHeld fun _ => ?_
   clear hK K hfN
   try simp only [Act.put,sA,sB,sC]
  rotate_left
  all_goals first
   |
    refine rW 5 (some 23) rfl fun K hK => ?_
    go_simp
    rw [HMI.out]
    go_simp
    have hbN : Below v_W1.heap.size v_W1 (v_W1.alloc (.cells (madeCells #[.int .i64 0] n) 3)) := (Below.refl _ _).alloc (Nat.le_refl _) _
    have hqv := Rw.emptyI16 v_W1 n (by omega)
    obtain ⟨v_W2, hw⟩ : ∃ x, x = v_W1.alloc (.cells (madeCells #[.int .i64 0] n) 3) := ⟨_, rfl⟩
    rw [← hw] at hbN hqv ⊢
    clear hw
    obtain ⟨ub, hvb⟩ : ∃ x, x = v_W1.heap.size := ⟨_, rfl⟩
    rw [← hvb] at hqv ⊢
    have hfN : Fr (fun _ => False) v_W1 v_W2 := Fr.of_below hbN
    have QU := qH hqv
    have HUB := qH (show wa.heap.size ≤ ub from by have := hHeld.size; omega)
    have QT := qH (QT.out.fr hfN (fun h => h))
    clear hqv hbN hvb
    have hHeld := hHeld.trans hfN
    have hz_7 := hfN.size
    refine hK.out _ _ hHeld fun _ => ?_
    clear hK K hfN
    try simp only [Act.put,sA,sB,sC]
    refine tA 7 (some 10) rfl hHeld ?_
   |
    refine rW 2 (some 20) rfl fun K hK => ?_
    go_simp
    rw [HMK.out]
    go_simp
    have hbN : Below v_W1.heap.size v_W1 (v_W1.alloc (.cells (madeCells #[.int .u8 0] q) 5)) := (Below.refl _ _).alloc (Nat.le_refl _) _
    have hqv := Rw.empty16 v_W1 q hZ
    obtain ⟨v_W2, hw⟩ : ∃ x, x = v_W1.alloc (.cells (madeCells #[.int .u8 0] q) 5) := ⟨_, rfl⟩
    rw [← hw] at hbN hqv ⊢
    clear hw
    obtain ⟨tb, hvb⟩ : ∃ x, x = v_W1.heap.size := ⟨_, rfl⟩
    rw [← hvb] at hqv ⊢
    have hfN : Fr (fun _ => False) v_W1 v_W2 := Fr.of_below hbN
    have QT := qH hqv
    have HTB := qH (show wa.heap.size ≤ tb from by have := hHeld.size; omega)
    have QU := qH (QU.out.fr hfN (fun h => h))
    clear hqv hbN hvb
    have hHeld := hHeld.trans hfN
    have hz_9 := hfN.size
    refine hK.out _ _ hHeld fun _ => ?_
    clear hK K hfN
    try simp only [Act.put,sA,sB,sC]
    refine tA 6 (some 9) rfl hHeld ?_
    refine tA 7 (some 10) rfl hHeld ?_
  all_goals
   refine tD ?_
   go_wp2_with fail
   go_meet
   exact ⟨tb, ub, rfl, rfl, QT.out, QU.out, HTB.out, HUB.out, hHeld⟩
 case rest =>
  obtain ⟨tb, ub, rfl, rfl, hqt, hqu, ht, hu, hHeld⟩ := hcut
  have hbw := hHeld.below (Nat.le_refl _) (fun _ h => h.elim)
  have BW := qH (HBA.out.trans (hbw.mono HBA.out.size))
  have XW := qH (HXA.out.fr hHeld (fun h => h))
  have QT := qH hqt
  have QU := qH hqu
  have HTL := qH (And.intro ht hu)
  clear hbw C2 C3 hqt hqu ht hu hHeld
  have c0 := XW.out.c0
  have c1 := XW.out.c1
  go_wp2_with fail
  clear c0 c1
  refine (ref16_any (p0 : Int) (g : Int) wc).mono ?_; rintro e w4 ⟨rfl, hb⟩
  have B4 := qH (BW.out.trans (hb.mono BW.out.size))
  have X4 := qH (XW.out.later hb)
  have T4 := qH (QT.out.later hb)
  have U4 := qH (QU.out.later hb)
  have hb5 : Below w4.heap.size w4 (w4.alloc (.cells #[.int .u8 4, .int .i64 (p0 : Int), .int .u64 (g : Int)] 99)) := (Below.refl _ _).alloc (Nat.le_refl _) _
  have hy5 : Rf13 (w4.alloc (.cells #[.int .u8 4, .int .i64 (p0 : Int), .int .u64 (g : Int)] 99)) w4.heap.size 4 (p0 : Int) (g : Int) := heap_alloc_new w4 _
  have hx5 := X4.out.later hb5
  have c2 := hx5.c2
  have HB5 := qH hb5
  have HY5 := qH hy5
  have HX5 := qH hx5
  clear hb hb5 hy5 hx5 BW XW QT QU
  go_wp2_with (refine at_none ?_; refine wpList_store_row (o := ⟨none, _, _, _, _, _⟩) rfl 99 (.tmp 11) (.tmp 28) rfl w4.heap.size #[.int .u8 4, .int .i64 (p0 : Int), .int .u64 (g : Int)] rfl rfl 99 _ (heap_alloc_last _ _) sz.out rfl (all_oneCell_toArray (r3c_one (4, (p0 : Int), (g : Int)))) ?_; rw [World.setRow_alloc_new])
  go_step3
  go_wp2_with fail
  clear c2
  obtain ⟨w5, hw5⟩ : ∃ x, x = w4.alloc (.cells #[.int .u8 4, .int .i64 (p0 : Int), .int .u64 (g : Int)] 99) := ⟨_, rfl⟩
  rw [← hw5] at HB5 HY5 HX5 ⊢
  clear hw5
  obtain ⟨Y, hY⟩ : ∃ Y, Y = w4.heap.size := ⟨_, rfl⟩
  rw [← hY] at HY5 ⊢
  have hlY : w.heap.size ≤ Y ∧ B ≠ Y := ⟨by have := B4.out.size; omega, by have := block_lt X4.out; omega⟩
  have hoff : ∀ bb, Bk (some ⟨tb, 0, none⟩) bb ∨ Bk (some ⟨ub, 0, none⟩) bb → w.heap.size ≤ bb ∧ bb ≠ B ∧ bb ≠ Y := fun bb hb => by
   have h1 := HTL.out
   have h2 := T4.out.lt
   have h3 := U4.out.lt
   have h4 := block_lt HXA.out
   have h5 := HBA.out.size
   have h6 : bb = tb ∨ bb = ub := by
    rcases hb with ⟨o, e⟩ | ⟨o, e⟩
    ·injection e with e
     injection e with e _
     exact .inl e.symm
    ·injection e with e
     injection e with e _
     exact .inr e.symm
   rcases h6 with rfl | rfl <;> exact ⟨by omega, by omega, by omega⟩
  have FO5 := qH (show Fo16 Rep w w5 S A C k m F T N xs B Y (p0 : Int) (g : Int) (n : Int) (q : Int) (atP ps 0 : Nat) (atG ps g 0 : Nat) (some ⟨tb, 0, none⟩) 0 q (b.take (0 * r)) (some ⟨ub, 0, none⟩) 0 n (ps.take 0) from
   ⟨H.out.later DK (B4.out.trans (HB5.out.mono B4.out.size)), B4.out.trans (HB5.out.mono B4.out.size), HX5.out, by
    rw [show atP ps 0 = p0 from by rw [atP, if_pos (by rw [HPL.out]; exact hn1)]; exact HP0.out, show atG ps g 0 = g from by rw [atG, if_pos (by rw [HPL.out]; exact hn1)]; rfl]
    exact HY5.out, by
    rw [Nat.zero_mul, List.take_zero]
    exact .inr ⟨tb, rfl, T4.out.later HB5.out⟩, .inr ⟨ub, rfl, U4.out.later HB5.out⟩, hoff, HSEP.out, ⟨by have := HB.out; omega, hlY.1, hlY.2⟩⟩)
  clear hoff hlY hY B4 X4 T4 U4 HB5 HY5 HX5 HTL
  go_loopw [9, 10, 12, 31] (fun tv uv fv iv wr => ∃ (i n2 c2 c3 : Nat) (A2 A3 : Option Addr), i ≤ n ∧ i ≤ i0 ∧ iv = .int .i64 (i : Int) ∧ fv = .int .i64 0 ∧ tv = .slice A2 n2 c2 ∧ uv = .slice A3 i c3 ∧ Fo16 Rep w wr S A C k m F T N xs B Y (p0 : Int) (g : Int) (n : Int) (q : Int) (atP ps i : Nat) (atG ps g i : Nat) A2 n2 c2 (b.take (i * r)) A3 i c3 (ps.take i)) (fun _ _ _ iv _ => n - (intOf iv).toNat)
  case atStart => exact ⟨0, 0, q, n, _, _, by omega, by omega, rfl, rfl, rfl, rfl, FO5.out⟩
  case round =>
   clear FO5
   obtain ⟨i, n2, c2, c3, A2, A3, hi, hi2, rfl, rfl, rfl, rfl, hfo⟩ := hrel
   have FO := qH hfo
   clear hfo
   by_cases hlt : i < n
   ·have hii : (i : Int) < (n : Int) := by omega
    obtain ⟨pi, hpe⟩ : ∃ pi, pi = ps.getD i 0 := ⟨_, rfl⟩
    obtain ⟨gi, hge⟩ : ∃ gi, gi = g + i := ⟨_, rfl⟩
    have hri := HRI.out i hlt
    have hpn := HAT.out i hlt
    have hstr := HVAL.out i (by rw [HPL.out]; exact hlt)
    rw [← hpe, ← hge] at hri hstr
    rw [← hpe] at hpn
    have FO := qH (show Fo16 Rep w wr S A C k m F T N xs B Y (p0 : Int) (g : Int) (n : Int) (q : Int) (pi : Int) (gi : Int) A2 n2 c2 (b.take (i * r)) A3 i c3 (ps.take i) from by
     have := FO.out
     rwa [show atP ps i = pi from by rw [atP, if_pos (by rw [HPL.out]; exact hlt), hpe], show atG ps g i = gi from by rw [atG, if_pos (by rw [HPL.out]; exact hlt), hge]] at this)
    have HRJ := qH hri
    have HPN := qH hpn
    have HSTR := qH hstr
    have HPI := qH hpe
    clear hri hpn hstr hpe hge
    by_cases hgi : i < i0
    ·go_wp2_with (refine at_dst11 (d := 37) ?_; refine wpList_step11 (o := ⟨some 37, _, _, _, _, _⟩) rfl _ wr (step_ref13 (x := .tmp 11) rfl rfl FO.out.y) ?_)
     refine (SV.get FO.out.ac HRJ.out HPN.out HSTR.out (HGD.out i hlt hgi)).mono ?_; rintro e w6 ⟨Ab, nb, cb, rfl, hs6, hb6, hn6⟩
     have hnb : nb = (leafL k ps g b i).length := by have := hs6.len; rw [cells_length] at this; omega
     have hql : i * r ≤ q := countS_last (by have := HR.out; omega) (by rw [HN.out]; exact hlt)
     have hq12 : i * r ≤ min ((i + 1) * r) q := Nat.le_min.2 ⟨Nat.mul_le_mul_right _ (by omega), hql⟩
     have hq22 : min ((i + 1) * r) q ≤ q := Nat.min_le_right _ _
     have hmin := piece_min16 (R := r) (i := i) (b := b) (by rw [HQ.out]; exact hql)
     rw [HQ.out] at hmin
     have hnb2 : nb = 10 + (min ((i + 1) * r) q - i * r) := by rw [hnb, leafL, List.length_append, linkL_len, show 44 * k - 10 = r from by have := HR.out; omega, hmin]
     have hpt := part16 (FO.out.ac.c.later hb6) HR.out q i (by omega) (by omega)
     obtain ⟨q1, hq1⟩ : ∃ q1, q1 = i * r := ⟨_, rfl⟩
     obtain ⟨q2, hq2⟩ : ∃ q2, q2 = min ((i + 1) * r) q := ⟨_, rfl⟩
     rw [← hq1] at hpt hql hq12 hnb2
     rw [← hq2] at hpt hq12 hq22 hnb2
     have HQ1 := qH hq1
     have FOr := FO
     have FO := qH (FO.out.later DK hb6)
     have SB := qH hs6
     have NB := qH (show ∀ bb o, 0 < nb → Ab = some ⟨bb, o, none⟩ → wr.heap.size ≤ bb from hn6)
     have NT := qH (show ∀ bb, Bk A2 bb ∨ Bk A3 bb → bb < wr.heap.size from fun bb hb => hb.elim (fun q => FOr.out.t.lt q) (fun q => FOr.out.u.lt q))
     have HNB := qH hnb2
     have HW6 := qH hb6.size
     have hnb10 : 10 ≤ nb := by omega
     have hnbM : nb ≤ 1000010 := by omega
     have c3 := FO.out.x.c3
     clear hs6 hn6 hmin hq1 hq2 hnb hnb2 hb6 FOr
     go_wp2_with fail
     refine hpt.mono ?_; clear hpt c3; rintro e w7 ⟨rfl, hw⟩
     obtain rfl : w6 = w7 := hw.symm
     have hne : ((nb : Int) != 10 + (q2 : Int) - (q1 : Int)) = false := by have := HNB.out; simp; omega
     go_wp2_with fail
     clear hne
     have hcap := SB.out.cap
     have htop := SB.out.top
     unfold maxLen at htop
     have i1 : (10 : Int) ≤ (nb : Int) := by omega
     have i2 : (nb : Int) ≤ (cb : Int) := by omega
     have FO := qH (FO.out.later DK (Below.drew (Below.refl _ _)))
     have SB := qH SB.out.drew
     have CY := qH (show w6.cell? ⟨Y, 1, none⟩ = some (.int .i64 (pi : Int)) from FO.out.y.c1_16)
     have FOY := qH (show (Bk A2 Y ∨ Bk A3 Y) → False from fun h => (FO.out.off Y h).2.2 rfl)
     refine wp_region_held_drew (S := fun w' => Fr (fun bb => Bk A2 bb ∨ Bk A3 bb) w6 w') (by kernel_rfl) (Fr.drew (Fr.refl _ _)) (fun hHeld => ?_)
     clear hHeld
     have hHeld : Fr (fun bb => Bk A2 bb ∨ Bk A3 bb) w6 w6.drew := Fr.drew (Fr.refl _ _)
     have hz_0 : w6.heap.size ≤ w6.drew.heap.size := Nat.le_refl _
     obtain ⟨v_W0, hw⟩ : ∃ v_W0, v_W0 = w6.drew := ⟨_, rfl⟩
     rw [← hw] at hHeld hz_0 FO SB ⊢
     clear hw
     refine tA 0 (some 63) rfl hHeld ?_
     refine tA 1 (some 64) rfl hHeld ?_
     refine tA 2 (some 65) rfl hHeld ?_
     refine tA 4 (some 67) rfl hHeld ?_
     refine tA 5 (some 68) rfl hHeld ?_
     refine tA 6 (some 69) rfl hHeld ?_ (fun wq hSw => by
      have hq := hSw.cell_some CY.out (fun h => (FOY.out h).elim)
      go_simp <;> with_reducible rfl)
     refine wpAnyH_ready (rs := [3, 7]) (by kernel_rfl) (by simp) ?_
     refine AllReadyH.cons (o := ⟨some 66, _, _, _, _, _⟩) rfl (fun K hK => ?_) (AllReadyH.cons (o := ⟨some 70, _, _, _, _, _⟩) rfl (fun K hK => ?_) (AllReadyH.nil))
     focus
      have hsl := SB.out.sub16 10 nb (by omega) (Nat.le_refl _)
      rw [List.take_of_length_le (by rw [List.length_drop]; have := SB.out.len; rw [cells_length] at this; omega), leafL_drop, show 44 * k - 10 = r from by have := HR.out; omega] at hsl
      obtain ⟨n4, hnn⟩ : ∃ n4, n4 = n2 + (nb - 10) := ⟨_, rfl⟩
      have hnl := FO.out.t.len16
      have hnq : n2 ≤ 1000000 := by rw [hnl, cells_length, List.length_take]; have := HQ.out; omega
      refine wp_append_rn (o := ⟨some 66, _, _, _, _, _⟩) (.tmp 63) (.tmp 65) 40 40 rfl i0u (.int .u8 0) 1 Tryz.underlying40 Hi0.out Hz0.out Hz1.out Hz2.out rfl (by decide) rfl FO.out.t _ (nb - 10) (cells (pieceL r b i)) rfl (hsl.src Tryz.underlying40 (by decide) (cells_one _)) (by unfold maxLen; omega) (by omega) ?_
      rw [← hnn]
      intro A4 c4 v_W1 hrn hfb hor
      rw [← cells_append, take_piece] at hrn
      have hfN : Fr (fun bb => Bk A2 bb ∨ Bk A3 bb) v_W0 v_W1 := hfb.mono (fun bb hb => .inl hb)
      have SB := qH (SB.out.fr hfb (fun bb o h0 hA hb => by have := NB.out bb o h0 hA; have := NT.out bb (.inl hb); omega))
      have FO := qH (FO.out.text DK hrn hfb hor)
      clear hrn hfb hor hsl hnl hnq hnn
      have M3 : True := trivial
      have hHeld := hHeld.trans hfN
      have hz_3 := hfN.size
      refine hK.out _ _ hHeld fun _ => ?_
      clear hK K hfN
      try simp only [Act.put,sA,sB,sC]
     rotate_left
     focus
      go_simp
      have hbN : Below v_W0.heap.size v_W0 (v_W0.alloc (.cells #[.int .i64 (pi : Int)] 3)) := (Below.refl _ _).alloc (Nat.le_refl _) _
      have hqv := Sl.made v_W0 #[.int .i64 (pi : Int)] 3 1 1 rfl (by decide)
      obtain ⟨v_W1, hw⟩ : ∃ x, x = v_W0.alloc (.cells #[.int .i64 (pi : Int)] 3) := ⟨_, rfl⟩
      rw [← hw] at hbN hqv ⊢
      clear hw
      obtain ⟨zb, hvb⟩ : ∃ x, x = v_W0.heap.size := ⟨_, rfl⟩
      rw [← hvb] at hqv ⊢
      have hfN : Fr (fun bb => Bk A2 bb ∨ Bk A3 bb) v_W0 v_W1 := Fr.of_below hbN
      have ZB := qH (show Sl v_W1 1 (some ⟨zb, 0, none⟩) 1 1 (ncells [pi]) from hqv)
      have HZB := qH (show w6.heap.size ≤ zb from by have := hHeld.size; omega)
      have FO := qH (FO.out.later DK hbN)
      have SB := qH (SB.out.below hbN (Nat.le_refl _))
      clear hqv hbN hvb
      have hHeld := hHeld.trans hfN
      have hz_5 := hfN.size
      refine hK.out _ _ hHeld fun _ => ?_
      clear hK K hfN
      try simp only [Act.put,sA,sB,sC]
     rotate_left
     all_goals first
      |
       refine rW 7 (some 70) rfl fun K hK => ?_
       go_simp
       have := M3
       clear this
       have hbN : Below v_W1.heap.size v_W1 (v_W1.alloc (.cells #[.int .i64 (pi : Int)] 3)) := (Below.refl _ _).alloc (Nat.le_refl _) _
       have hqv := Sl.made v_W1 #[.int .i64 (pi : Int)] 3 1 1 rfl (by decide)
       obtain ⟨v_W2, hw⟩ : ∃ x, x = v_W1.alloc (.cells #[.int .i64 (pi : Int)] 3) := ⟨_, rfl⟩
       rw [← hw] at hbN hqv ⊢
       clear hw
       obtain ⟨zb, hvb⟩ : ∃ x, x = v_W1.heap.size := ⟨_, rfl⟩
       rw [← hvb] at hqv ⊢
       have hfN : Fr (fun bb => Bk A2 bb ∨ Bk A3 bb) v_W1 v_W2 := Fr.of_below hbN
       have ZB := qH (show Sl v_W2 1 (some ⟨zb, 0, none⟩) 1 1 (ncells [pi]) from hqv)
       have HZB := qH (show w6.heap.size ≤ zb from by have := hHeld.size; omega)
       have FO := qH (FO.out.later DK hbN)
       have SB := qH (SB.out.below hbN (Nat.le_refl _))
       clear hqv hbN hvb
       have hHeld := hHeld.trans hfN
       have hz_7 := hfN.size
       refine hK.out _ _ hHeld fun _ => ?_
       clear hK K hfN
       try simp only [Act.put,sA,sB,sC]
      |
       refine rW 3 (some 66) rfl fun K hK => ?_
       have hsl := SB.out.sub16 10 nb (by omega) (Nat.le_refl _)
       rw [List.take_of_length_le (by rw [List.length_drop]; have := SB.out.len; rw [cells_length] at this; omega), leafL_drop, show 44 * k - 10 = r from by have := HR.out; omega] at hsl
       obtain ⟨n4, hnn⟩ : ∃ n4, n4 = n2 + (nb - 10) := ⟨_, rfl⟩
       have hnl := FO.out.t.len16
       have hnq : n2 ≤ 1000000 := by rw [hnl, cells_length, List.length_take]; have := HQ.out; omega
       refine wp_append_rn (o := ⟨some 66, _, _, _, _, _⟩) (.tmp 63) (.tmp 65) 40 40 rfl i0u (.int .u8 0) 1 Tryz.underlying40 Hi0.out Hz0.out Hz1.out Hz2.out rfl (by decide) rfl FO.out.t _ (nb - 10) (cells (pieceL r b i)) rfl (hsl.src Tryz.underlying40 (by decide) (cells_one _)) (by unfold maxLen; omega) (by omega) ?_
       rw [← hnn]
       intro A4 c4 v_W2 hrn hfb hor
       rw [← cells_append, take_piece] at hrn
       have hfN : Fr (fun bb => Bk A2 bb ∨ Bk A3 bb) v_W1 v_W2 := hfb.mono (fun bb hb => .inl hb)
       have SB := qH (SB.out.fr hfb (fun bb o h0 hA hb => by have := NB.out bb o h0 hA; have := NT.out bb (.inl hb); omega))
       have ZB := qH (ZB.out.fr hfb (fun bb o _ e hb => by injection e with e; injection e with e _; have := NT.out bb (.inl hb); have := HZB.out; have := HW6.out; omega))
       have FO := qH (FO.out.text DK hrn hfb hor)
       clear hrn hfb hor hsl hnl hnq hnn
       have M3 : True := trivial
       have hHeld := hHeld.trans hfN
       have hz_9 := hfN.size
       refine hK.out _ _ hHeld fun _ => ?_
       clear hK K hfN
       try simp only [Act.put,sA,sB,sC]
     all_goals
      refine rW 8 (some 71) rfl fun K hK => ?_
      refine wp_appI16 (o := ⟨some 71, _, _, _, _, _⟩) (.tmp 67) (.tmp 70) rfl rfl FO.out.u (some ⟨zb, 0, none⟩) 1 1 [pi] rfl ZB.out (i + 1) rfl (by omega) ?_
      intro A5 c5 v_W3 hrn hfb hor
      rw [← ncells_append16, show ps.take i ++ [pi] = ps.take (i + 1) from by rw [HPI.out, take_getD16 (by rw [HPL.out]; exact hlt)]] at hrn
      have hfN : Fr (fun bb => Bk A2 bb ∨ Bk A3 bb) v_W2 v_W3 := hfb.mono (fun bb hb => .inr hb)
      have SB := qH (SB.out.fr hfb (fun bb o h0 hA hb => by have := NB.out bb o h0 hA; have := NT.out bb (.inr hb); omega))
      have FO := qH (FO.out.ints DK hrn hfb hor)
      clear hrn hfb hor
      have hHeld := hHeld.trans hfN
      have hz_11 := hfN.size
      refine hK.out _ _ hHeld fun _ => ?_
      clear hK K hfN
      try simp only [Act.put,sA,sB,sC]
      refine tA 9 (some 9) rfl hHeld ?_
      refine tA 10 (some 10) rfl hHeld ?_
     all_goals
      refine tD ?_
      obtain ⟨AV, hAV⟩ : ∃ AV, AV = (if cb = 10 then Ab else Option.map (fun x => ({ block := x.block, off := x.off + 10 } : Addr)) Ab) := ⟨_, rfl⟩
      rw [← hAV]
      clear hAV
      have hnx := leaf_next (k := k) (b := b) HV.out (i := i) (by rw [HPL.out]; exact hlt)
      have hnn := next16 Ab nb cb (leafL k ps g b i) (atP ps (i + 1)) (atG ps g (i + 1)) v_W3 SB.out (by omega) hnx.1 hnx.2.1 hnx.2.2.1 hnx.2.2.2
      clear hnx i1 i2 hcap htop
      go_wp2_with fail
      refine hnn.mono ?_; clear hnn; rintro e w9 ⟨rfl, hb⟩
      have FO := qH (FO.out.later DK hb)
      have sz9 := qH (size_ref13 4 (atP ps (i + 1) : Nat) (atG ps g (i + 1) : Nat))
      clear hb
      go_wp2_with (refine at_none ?_; refine wpList_store_row (o := ⟨none, _, _, _, _, _⟩) rfl 99 (.tmp 11) (.tmp 73) rfl Y #[.int .u8 4, .int .i64 (atP ps (i + 1) : Nat), .int .u64 (atG ps g (i + 1) : Nat)] rfl rfl 99 _ FO.out.y sz9.out rfl (all_oneCell_toArray (r3c_one (4, ((atP ps (i + 1) : Nat) : Int), ((atG ps g (i + 1) : Nat) : Int)))) ?_)
      go_roundw
      case rel => exact ⟨i + 1, _, _, _, _, _, by omega, by omega, by go_num, rfl, rfl, rfl, FO.out.next DK⟩
      case measure => simp [intOf]; omega
    ·obtain rfl : i = i0 := by omega
     obtain ⟨hSL, hbad⟩ := HLS.out hlt
     go_wp2_with (refine at_dst11 (d := 37) ?_; refine wpList_step11 (o := ⟨some 37, _, _, _, _, _⟩) rfl _ wr (step_ref13 (x := .tmp 11) rfl rfl FO.out.y) ?_)
     refine (hSL _ _ _ _ _ _ _ _ _ _ _ _ _ _ _ FO.out.ac HRJ.out HPN.out HSTR.out hbad).mono ?_; rintro e w6 ⟨Ab, nb, cb, rfl, hb6⟩
     have hpt := part16 (FO.out.ac.c.later hb6) HR.out q i (by omega) (by omega)
     have FO := qH (FO.out.later DK hb6)
     have c3 := FO.out.x.c3
     clear hb6 hSL hbad
     go_wp2_with fail
     refine hpt.mono ?_; clear hpt c3; rintro e w7 ⟨rfl, hw⟩
     obtain rfl : w6 = w7 := hw.symm
     go_wp2_with fail
     refine wp_region_held_drew (S := fun w' => Fr (fun _ => False) w6.drew w') (by kernel_rfl) (Fr.refl _ _) (fun hHeld => ?_)
     clear hHeld
     refine tA 0 (some 75) rfl (Fr.refl _ _) ?_
     refine tA 1 (some 76) rfl (Fr.refl _ _) ?_
     refine tA 2 (some 77) rfl (Fr.refl _ _) ?_
     refine tU 3 (some 78) rfl (Fr.refl _ _) ?_
     refine tU 4 (some 79) rfl (Fr.refl _ _) ?_
     refine tU 5 (some 80) rfl (Fr.refl _ _) ?_
     refine tA 6 (some 81) rfl (Fr.refl _ _) ?_
     refine tD ?_
     go_wp2_with fail
     rw [Exit.noGoto_ret]
     go_ret3
     exact .inr ⟨hlt, rfl, FO.out.bel.drew⟩
   ·obtain rfl : i = n := by omega
    have hy := FO.out.y
    rw [show atP ps i = 0 from by rw [atP, if_neg (by rw [HPL.out]; omega)], show atG ps g i = 0 from by rw [atG, if_neg (by rw [HPL.out]; omega)]] at hy
    have HY := qH (show Rf13 wr.drew Y 4 0 0 from hy)
    have HTB := qH (show b.take (i * r) = b from List.take_of_length_le (by rw [HQ.out, ← HN.out]; exact countS_bound (by have := HR.out; omega)))
    have hn2 := FO.out.t.len16
    rw [HTB.out, cells_length, HQ.out] at hn2
    obtain rfl : n2 = q := hn2
    clear hy
    go_wp2_with fail
    refine wp_region_held_drew (S := fun w' => Fr (fun _ => False) wr.drew w') (by kernel_rfl) (Fr.refl _ _) (fun hHeld => ?_)
    clear hHeld
    refine tA 0 (some 75) rfl (Fr.refl _ _) ?_
    refine tA 1 (some 76) rfl (Fr.refl _ _) ?_
    refine tA 2 (some 77) rfl (Fr.refl _ _) ?_
    refine tL 3 (some 78) (v := (.agg (r3c (4, 0, 0)).toArray)) rfl ?ye3 (Fr.refl _ _) ?re3
    case ye3 =>
     intro wq hSw
     exact step_ref13 (x := .tmp 11) rfl rfl (hSw.row_some HY.out (fun h => h))
    try simp only [Act.put,sA,sB,sC]
    refine rW 4 (some 79) rfl fun K hK => ?_
    go_simp
    refine (ref16_any 0 0 wr.drew).mono ?_; rintro e w8 ⟨rfl, hb⟩
    have hfr : Fr (fun _ => False) wr.drew w8 := Fr.of_below hb
    have FO := qH (FO.out.later DK ((Below.drew (Below.refl _ _)).trans hb))
    clear hb
    go_wp2_with fail
    refine hK.out _ _ hfr (fun hHeld => ?_)
    clear hK K hHeld
    try simp only [Act.put,sA,sB,sC]
    refine wpAnyH_re (S' := fun w' => Fr (fun _ => False) w8 w') (fun w' h => hfr.trans h) ?_
    clear hfr
    refine tL 5 (some 80) (v := (.bool false)) rfl ?ye5 (Fr.refl _ _) ?re5
    case ye5 =>
     intro wq hSw
     exact step_ner16 (r := (4, 0, 0)) (x := .tmp 78) (y := .tmp 79) rfl rfl rfl
    try simp only [Act.put,sA,sB,sC]
    refine tA 6 (some 81) rfl (Fr.refl _ _) ?_
    refine tD ?_
    go_wp2_with fail
    rw [Exit.noGoto_ret]
    go_ret3
    exact .inl ⟨hi2, A2, c2, A3, c3, rfl, by have := FO.out.t.sl; rwa [HTB.out] at this, by have := FO.out.u.sl; rwa [List.take_of_length_le (by rw [HPL.out]; exact Nat.le_refl _)] at this, FO.out.bel, fun bb hb => (FO.out.off bb hb).1⟩
end
end Go.Proofs.YtokbhgbajdomnaaGreatDoor

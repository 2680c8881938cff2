/-
  Numbers in new memory, and as the keys of a map; contracts of package locate's rising and mapped; the rows of a slice in new memory (slices.Clone). No condition but bounds.
-/
import Derived.Test.YtabcmjbcnmedhaaGreatDqd
import Derived.Maps.OwnSet
namespace Go.Proofs.YtabcmjbcnmedhaaGreat
open Go.RowKit Go.Proofs Go.Maps
set_option linter.unusedVariables false

/-- Numbers in a block of their own. -/
def Numb (w : World) (g : Nat) (s : List Nat) : Prop := w.heap[g]? = some (.cells (ncells s).toArray 3 (0, 0))
theorem Numb.fr {S : Nat → Prop} {w w' : World} {g : Nat} {s : List Nat} (h : Numb w g s) (hf : Fr S w w') (hS : ¬ S g) : Numb w' g s := hf.row_some h hS
theorem Numb.later {w w' : World} {g : Nat} {s : List Nat} (h : Numb w g s) (hb : Below w.heap.size w w') : Numb w' g s := (hb.block _ (block_lt h)).trans h
theorem Numb.at_ {w : World} {g : Nat} {s : List Nat} (h : Numb w g s) {i : Nat} (hi : i < s.length) : w.cell? ⟨g, i, none⟩ = some (.int .i64 ((s.getD i 0 : Nat) : Int)) := by
  rw [cell_of_row _ _ _ _ _ _ h, List.getElem?_toArray, ncells_get s i hi]
  simp [hi]
theorem Numb.sl {w : World} {g : Nat} {s : List Nat} {q : Nat} (h : Numb w g s) (hq : s.length = q) (hl : q ≤ maxLen) : Sl w 1 (some ⟨g, 0, none⟩) q q (ncells s) :=
  ⟨by rw [ncells_length, hq, Nat.mul_one], Nat.le_refl _, hl, fun j u hu => ⟨g, 0, rfl, by rw [Nat.zero_add, cell_of_row _ _ _ _ _ _ h, List.getElem?_toArray]; exact hu⟩⟩
theorem size_i : (Tryz.prog.info? 3).map (·.size) = some 1 := by kernel_rfl
/-- copy of numbers onto the last ones. -/
theorem run_copy_up {w : World} {g a c cd q r : Nat} {s t : List Nat} {A : Option Addr} (h : Numb w g s) (hq : s.length = q) (ht : t.length = r) (ha : a + r = q) (hr0 : 0 < r) (hs : Sl w 1 A r c (ncells t)) (ty : TypeId) :
    ∃ w', (Builtin.copy_ #[27, 27] ty #[.slice (some ⟨g, a, none⟩) r cd, .slice A r c]).run Tryz.prog w = .ok (.int .i64 (r : Int)) w' ∧ Numb w' g (s.take a ++ t) ∧ Fr (fun k => k = g) w w' := by
  obtain ⟨b, o, rfl, hc⟩ := hs.at_ (k := 0) hr0
  have hlen : (ncells t).length = r := by rw [ncells_length, ht]
  have hrun := run_copy_row (P := Tryz.prog) w 27 27 ty 3 g a r cd ⟨b, o, none⟩ r c (ncells s).toArray 3 (ncells t) Tryz.underlying27 size_i h (by rw [hlen]; simp) (fun j v hv => by
    rw [show (⟨b, o, none⟩ : Addr).add j = ⟨b, o + j, none⟩ from by unfold Addr.add; split <;> simp_all]
    exact hc j v hv) (by rw [hlen, List.size_toArray, ncells_length, hq]; omega) (ncells_one t)
  rw [hlen] at hrun
  refine ⟨_, hrun, ?_, ⟨rfl, rfl, rfl, by simp, fun k hk hne => setRow_other _ _ k _ hne⟩⟩
  have e1 : (ncells s).toArray.toList.take a ++ ncells t ++ (ncells s).toArray.toList.drop (a + r) = ncells (s.take a ++ t) := by
    rw [List.drop_of_length_le (by rw [show (ncells s).toArray.toList = ncells s from rfl, ncells_length, hq]; omega), List.append_nil, ncells_append]
    simp only [ncells, List.map_take]
  rw [e1]
  exact setRow_heap w g (ncells s).toArray _ 3 (0, 0) h

/-- make([]int, z). -/
theorem makei_eq (z : Int) (k : Nat) (hz : z = (k : Int)) (hk : k ≤ 1048576) (w : World) :
    (Instr.makeSlice 27 (.int .i64 z) (.int .i64 z)).run Tryz.prog w = .ok (.slice (some ⟨w.heap.size, 0, none⟩) k k) (w.alloc (.cells (madeCells #[.int .i64 0] k) 3)) := by
  obtain ⟨i0, hi, hz0, hz1, hz2⟩ := info_parts info_i
  subst hz
  have h := run_make (P := Tryz.prog) w 27 3 i0 (.int .i64 0) Tryz.underlying27 hi hz0 .i64 .i64 (k : Int) (k : Int) (by omega) (by omega) (by rw [hz2]; omega) (by omega)
  rw [hz1, Nat.mul_one, Int.toNat_natCast] at h
  exact h

set_option maxRecDepth 20000 in
set_option maxHeartbeats 800000 in
theorem rising_any (x q : Nat) (hx : x ≤ 1048576) (hq : q ≤ 1048576) (w : World) :
    Calls Tryz.prog 61 #[.int .i64 (x : Int), .int .i64 (q : Int)] w fun e w' => e = .returned (.slice (some ⟨w.heap.size, 0, none⟩) q q) ∧ Numb w' w.heap.size (upL x q) ∧ Below w.heap.size w w' := by
  have hmk := makei_eq (q : Int) q rfl hq
  go_enter Tryz.func61, Tryz.ntmps61
  go_wp2_with fail
  clear hmk
  go_loopw [11] (fun i wr => ∃ (j : Nat) (cur : Array Value), j ≤ q ∧ i = .int .i64 (j : Int) ∧ wr.heap[w.heap.size]? = some (.cells cur 3 (0, 0)) ∧ cur.size = q ∧ cur.toList.take j = ncells (upL x j) ∧ Below w.heap.size w wr) (fun i _ => q - (intOf i).toNat)
  case atStart => exact ⟨0, _, by omega, rfl, heap_alloc_new w _, by rw [size_madeCells], rfl, (Below.refl _ _).alloc (Nat.le_refl _) _⟩
  case round =>
    obtain ⟨j, cur, hj, rfl, hg, hsz, ht, hb⟩ := hrel
    have Hg := Lib.hid hg
    have Hsz := Lib.hid hsz
    have Ht := Lib.hid ht
    have Hb := Lib.hid hb
    clear hsz ht hb
    by_cases hlt : j < q
    · obtain ⟨v0, hv0⟩ : ∃ v, wr.cell? ⟨w.heap.size, j, none⟩ = some v := by
        rw [cell_of_row _ _ _ _ _ _ hg]
        exact ⟨_, Array.getElem?_eq_getElem (by rw [Hsz.out]; exact hlt)⟩
      have hfz : wr.frozen? ⟨w.heap.size, j, none⟩ = false := frozen_of_row _ _ _ _ _ hg
      clear hg
      have hji : (j : Int) < (q : Int) := by omega
      go_wp2_with fail
      have hset := heap_setCell_same wr w.heap.size j cur 3 (.int .i64 ((x : Int) + (j : Int))) Hg.out
      have Hset := Lib.hid hset
      clear hset hv0 hfz
      go_roundw
      case rel => exact ⟨j + 1, _, by omega, by go_num, Hset.out, by rw [Array.size_setIfInBounds]; exact Hsz.out, by
        rw [← upL_next, ncells_append, ← Ht.out, Array.toList_setIfInBounds]
        apply List.ext_getElem?
        intro i
        have hcl : cur.toList.length = q := by rw [Array.length_toList, Hsz.out]
        rcases Nat.lt_trichotomy i j with h1 | h1 | h1
        · rw [List.getElem?_take, if_pos (by omega), List.getElem?_set_ne (by omega), List.getElem?_append_left (by rw [List.length_take]; omega), List.getElem?_take, if_pos h1]
        · subst h1
          rw [List.getElem?_take, if_pos (by omega), List.getElem?_set_self (by omega), List.getElem?_append_right (by rw [List.length_take]; omega), List.length_take, show i - min i cur.toList.length = 0 by omega]
          simp [ncells]
        · rw [List.getElem?_take, if_neg (by omega), List.getElem?_eq_none (by rw [List.length_append, List.length_take, ncells_length]; simp; omega)], Hb.out.setCell (Nat.le_refl _) _⟩
      case measure => simp [intOf]; omega
    · obtain rfl : j = q := by omega
      clear hg
      go_wp2_with fail
      go_ret
      have he : cur = (ncells (upL x j)).toArray := by
        apply Array.ext'
        rw [← Ht.out, List.take_of_length_le (by rw [Array.length_toList, Hsz.out]; exact Nat.le_refl _)]
      have hg := Hg.out
      rw [he] at hg
      exact ⟨rfl, hg, Hb.out⟩

/-- Numbers as the keys of a map. -/
def setL (s : List Nat) : DataW Unit := setOf (.agg []) (s.map fun (x : Nat) => Lit.int .i64 (x : Int))
theorem setL_snoc (s : List Nat) (x : Nat) : setL (s ++ [x]) = (setL s).put (.int .i64 (x : Int)) (.agg []) := by rw [setL, List.map_append, List.map_singleton, setOf_snoc]; rfl
theorem setL_has (s : List Nat) (i : Nat) : has (setL s) (.int .i64 (i : Int)) = decide (i ∈ s) := by
  rw [setL, has_setOf _ _ _ (fun x hx => by
    obtain ⟨y, _, rfl⟩ := List.mem_map.1 hx
    trivial)]
  rw [Bool.eq_iff_iff, List.any_eq_true, decide_eq_true_iff]
  constructor
  · rintro ⟨y, hy, hs⟩
    obtain ⟨z, hz, rfl⟩ := List.mem_map.1 hy
    by_cases e : z = i
    · rwa [e] at hz
    · rw [sameKey_ne (fun e' => e (by injection e' with _ e'; omega))] at hs
      cases hs
  · intro hi
    exact ⟨_, List.mem_map.2 ⟨i, hi, rfl⟩, WideAt.sameKey_self (by trivial)⟩
structure Keys (w : World) (b : Nat) (s : List Nat) : Prop where
  own : w.ownsMap Tryz.prog 3 (unitElem (H := Unit)) b s.length (setL s)
theorem Keys.later {w w' : World} {b : Nat} {s : List Nat} (h : Keys w b s) (hb : Below w.heap.size w w') : Keys w' b s := ⟨ownsMap_below h.own hb⟩
theorem zeroU (w : World) : (zeroValue 56).run Tryz.prog w = .ok (.agg #[]) w := by kernel_rfl

set_option maxRecDepth 100000 in
set_option maxHeartbeats 1600000 in
theorem mapped_any (A : Option Addr) (q c : Nat) (s : List Nat) (w : World) (hs : Sl w 1 A q c (ncells s)) (hq : q ≤ 1048576) (hx : ∀ x ∈ s, x ≤ 1048576) :
    Calls Tryz.prog 62 #[.slice A q c] w fun e w' => e = .returned (.map (some w.heap.size)) ∧ Keys w' w.heap.size s ∧ Below w.heap.size w w' := by
  have hmm := @run_makeMap Tryz.prog
  have hsl : s.length = q := by
    have := hs.len
    rw [ncells_length] at this
    omega
  have Hs := Lib.hid hs; clear hs
  have Hx := Lib.hid hx; clear hx
  have Hsl := Lib.hid hsl; clear hsl
  go_enter Tryz.func62, Tryz.ntmps62
  go_wp2_with fail
  clear hmm
  go_loopw [9] (fun i wr => ∃ j : Nat, j ≤ q ∧ i = .int .i64 (j : Int) ∧ Keys wr w.heap.size (s.take j) ∧ Below w.heap.size w wr) (fun i _ => q - (intOf i).toNat)
  case atStart => exact ⟨0, by omega, rfl, ⟨World.ownsMap_made _ _ _ _⟩, (Below.refl _ _).alloc (Nat.le_refl _) _⟩
  case round =>
    obtain ⟨j, hj, rfl, hown, hb⟩ := hrel
    have hwin := hb.size
    have Hown := Lib.hid hown
    have Hb := Lib.hid hb
    clear hown hb
    by_cases hlt : j < q
    · have hjl : j < s.length := by rw [Hsl.out]; exact hlt
      obtain ⟨b1, o1, rfl, hc⟩ := (Hs.out.below Hb.out (Nat.le_refl _)).at_ hlt
      have hcell := hc j _ (ncells_get s j hjl)
      clear hc
      have hxw := Hx.out _ (List.getElem_mem hjl)
      obtain ⟨x, hx⟩ : ∃ x, x = s[j] := ⟨_, rfl⟩
      rw [← hx] at hcell hxw
      have hnext : s.take (j + 1) = s.take j ++ [x] := by rw [hx]; simp
      have Hnext := Lib.hid hnext
      have hkey : keyOf Tryz.prog 3 (.int .i64 (x : Int)) = some (.int .i64 (x : Int)) := keyOf_int_mk Tryz.underlying3 (wf_of (by omega))
      have hown := Hown.out.own
      have hlen : (s.take j).length = j := by rw [List.length_take]; omega
      rw [hlen] at hown
      have hji : (j : Int) < (q : Int) := by omega
      clear hx hnext hlen
      go_wp2_with (at_mapUpdate; refine wpList_mapUpdate_own _ rfl _ _ _ 91 rfl 3 56 keyedI Tryz.underlying91 (unitElem (H := Unit)) w.heap.size j _ rfl hown (by unfold maxLen; omega) _ _ _ rfl rfl hkey _ [] unitElem_mk ?_; intro w1 hown1 hgrow1)
      have hb1 := Hb.out.grown hgrow1 hwin (fun j hj => by cases hj; exact Nat.le_refl _)
      have hkeys : Keys w1 w.heap.size (s.take (j + 1)) := ⟨by
        rw [Hnext.out, setL_snoc, List.length_append, List.length_take, show min j s.length = j by omega]
        exact hown1⟩
      have Hkeys := Lib.hid hkeys
      have Hb1 := Lib.hid hb1
      clear hown hown1 hgrow1 hb1 hkeys hcell hkey
      go_wp2_with fail
      go_roundw
      case rel => exact ⟨j + 1, by omega, by go_num, Hkeys.out, Hb1.out⟩
      case measure => simp [intOf]; omega
    · obtain rfl : j = q := by omega
      go_wp2_with fail
      go_ret
      have := Hown.out
      rw [List.take_of_length_le (by rw [Hsl.out]; exact Nat.le_refl _)] at this
      exact ⟨rfl, this, Hb.out⟩
end Go.Proofs.YtabcmjbcnmedhaaGreat

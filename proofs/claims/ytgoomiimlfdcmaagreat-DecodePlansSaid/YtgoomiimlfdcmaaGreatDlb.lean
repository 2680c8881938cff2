/-
  Contracts of slices.Values, of its iterator inside slices.AppendSeq, and so of slices.Sorted over a slice of integers. No condition but bounds.
-/
import Derived.Test.YtgoomiimlfdcmaaGreatDla
import Derived.Test.YtgoomiimlfdcmaaGreatGa
import Derived.Test.YtgoomiimlfdcmaaGreatInt
namespace Go.Proofs.YtgoomiimlfdcmaaGreat
open Go.RowKit Go.Proofs Go.Shelf Go.Maps Go.Sort
set_option linter.unusedVariables false

theorem sortsIn (m : Nat) : AnyZI.SortsIn Tryz.prog sortedA_ren Fence.wide m :=
  ⟨fun blk off cap ss W hH hblk hsz => callsIn_wide.2 (AnyM.slices_Sort_int sortA blk off cap ss W hH hblk hsz), fun p cap W => callsIn_wide.2 (AnyM.slices_Sort_int_none sortA p cap W)⟩

set_option maxRecDepth 100000 in
set_option maxHeartbeats 1000000 in
/-- The iterator of slices.Values: whatever the rounds keep (J), so that the slice's numbers lie there in each. -/
theorem values1_in (m l g : Nat) (A : Option Addr) (n c : Nat) (xs : List Int) (J : List Int → World → Prop) (W : World) (hlen : xs.length = n) (hn : n ≤ 1048576) (hcell : W.cell? ⟨g, 0, none⟩ = some (.slice A n c)) (hsl : ∀ s W1, J s W1 → Sl W1 1 A n c (icells xs))
    (hY : ∀ pre x W1, J pre W1 → pre.length < n → YieldAt Fence.wide (m - 1) Tryz.prog l #[encZ x] W1 fun e W' => e = .returned (.bool true) ∧ J (pre ++ [x]) W' ∧ KeepsWalks W1 W') (h0 : J [] W) :
    CallsIn Fence.wide m Tryz.prog 60 #[.func (.yield l) #[] #[], .pointer (some ⟨g, 0, none⟩)] W fun e W' => (∃ v, e = .returned v) ∧ J xs W' := by
  refine callsIn_of_wp Tryz.func60 rfl trivial ?_ rfl
  simp only [Tryz.ntmps60, List.size_toArray, List.length_cons, List.length_nil, Nat.reduceAdd, Nat.reduceSub, Array.replicate_succ, Array.replicate_zero, List.push_toArray, List.append_toArray, List.nil_append, List.cons_append]
  gi_wp2_with gi_in
  gi_loopw [7] (fun i wr => ∃ k : Nat, k ≤ n ∧ i = .int .i64 (k : Int) ∧ J (xs.take k) wr) (fun i _ => n - (intOf i).toNat)
  case atStart => exact ⟨0, by omega, rfl, by simpa using h0⟩
  case round =>
    obtain ⟨k, hk, rfl, hJk⟩ := hrel
    by_cases hlt : k < n
    · obtain ⟨b, o, rfl, hc⟩ := (hsl _ _ hJk).at_ hlt
      have hx := hc k _ (icells_get xs k (by omega))
      obtain ⟨x, hxd⟩ : ∃ x, x = xs[k] := ⟨_, rfl⟩
      rw [← hxd] at hx
      have hnext : xs.take k ++ [x] = xs.take (k + 1) := by rw [hxd]; simp
      obtain ⟨fn, tmps, assign, body, hy, hR⟩ := hY _ x wr hJk (by simp; omega)
      have Hnext := Lib.hid hnext; clear hnext hxd hc
      gi_wp2_with gi_in
      refine ⟨fun h => absurd h (by decide), hR.mono ?_⟩
      rintro e W3 ⟨rfl, hJ3, hk3⟩
      gi_wp2_with gi_in
      go_roundw
      case rel => exact ⟨k + 1, by omega, by go_num, by rw [← Hnext.out]; exact hJ3⟩
      case measure => simp [intOf]; omega
    · obtain rfl : k = n := by omega
      gi_wp2_with gi_in
      go_end0
      exact ⟨⟨_, rfl⟩, by rwa [List.take_of_length_le (by omega)] at hJk⟩

theorem Sl.ofIcells {w : World} {A : Option Addr} {n c : Nat} {l : List Int} (h : Sl w 1 A n c (icells l)) : l.length = n := by
  have := h.len
  rw [icells_length] at this
  omega

set_option maxRecDepth 100000 in
set_option maxHeartbeats 2000000 in
/-- slices.AppendSeq onto nil, over the iterator of slices.Values. -/
theorem appendV_in (n : Nat) (hn : 2 ≤ n) (g : Nat) (A : Option Addr) (m c : Nat) (xs : List Int) (w : World) (hcell : w.cell? ⟨g, 0, none⟩ = some (.slice A m c)) (hsl : Sl w 1 A m c (icells xs)) (hm : m ≤ 1048576) :
    CallsIn Fence.wide n Tryz.prog (sortedA_ren.f 11) #[.slice none 0 0, .func (.func 60) #[] #[.pointer (some ⟨g, 0, none⟩)]] w fun e w' => ∃ v : Value, e = .returned v ∧ w'.ownsRow w.heap.size (sortedA_ren.t 26) 1 v xs.length (xs.map encZ) ∧ (v = .slice none 0 0 ↔ xs = []) ∧ Below w.heap.size w w' := by
  have h1 : 1 ≤ n := by omega
  have hxl := hsl.ofIcells
  obtain ⟨ρ, hρ⟩ : ∃ ρ, ρ = sortedA_ren := ⟨_, rfl⟩
  have L : SlLaysZI.n11 Tryz.prog ρ := by rw [hρ]; exact { sortedA with }
  have eg : ∀ args w, (callFunc 60 args).run Tryz.prog w = .ok (.enter 60 args) w := enters_of Tryz.func60 (by kernel_rfl) rfl
  rw [← hρ]
  have mixed := L.mixed; have t0 := L.t0; have a0 := L.a0; have z0 := L.z0; have v0 := L.v0; have t24 := L.t24; have a24 := L.a24; have z24 := L.z24; have v24 := L.v24; have t26 := L.t26; have a26 := L.a26; have z26 := L.z26; have v26 := L.v26; have t28 := L.t28; have a28 := L.a28; have z28 := L.z28; have v28 := L.v28
  have hne : ρ.t 24 ≠ ρ.t 26 := fun e => by have h := L.t24; rw [e, L.t26] at h; cases h
  have u0 := run_underlying L.t0; have u24 := run_underlying L.t24; have u26 := run_underlying L.t26; have u28 := run_underlying L.t28
  obtain ⟨_, _, FG⟩ := L.f11
  have HR := Lib.hid hρ; clear hρ
  refine callsIn_of_wp_marks FG rfl trivial ?_ rfl
  simp only [SlBodyZ.n11_ntmps ρ, List.size_toArray, List.length_cons, List.length_nil, Nat.reduceAdd, Nat.reduceSub, Array.replicate_succ, Array.replicate_zero, List.push_toArray, List.append_toArray, List.nil_append, List.cons_append]
  gi_wp2
  refine wpIn_rangeFunc ?_
  intro fn hfn
  obtain ⟨sv, hsv⟩ : ∃ sv, sv = Value.func (.func 60) #[] #[.pointer (some ⟨g, 0, none⟩)] := ⟨_, rfl⟩
  have hb0 : Below w.heap.size w (w.alloc (.cells #[.slice none 0 0] (ρ.t 24))) := (Below.refl _ w).alloc (Nat.le_refl _) _
  have hv0 := World.alloc_heap_new w (.cells #[.slice none 0 0] (ρ.t 24))
  obtain ⟨W0, hW0⟩ : ∃ W0, w.alloc (.cells #[.slice none 0 0] (ρ.t 24)) = W0 := ⟨_, rfl⟩
  have hs0 : W0.heap.size = w.heap.size + 1 := by rw [← hW0]; simp
  rw [hW0] at hb0 hv0
  rw [hW0, ← hsv]
  obtain ⟨W1, hW1⟩ : ∃ W1, (W0.alloc (.deferred (some []))).alloc (.loop (AnyZI.apRec ρ fn sv w.heap.size W0.heap.size .ready none)) = W1 := ⟨_, rfl⟩
  have hold : ∀ k, k < W0.heap.size → W1.heap[k]? = W0.heap[k]? := fun k hk => by
    rw [← hW1]; exact (Below.heap_alloc _ _ k (by simp; omega)).trans (Below.heap_alloc _ _ k hk)
  have hb1 : Below w.heap.size w W1 := by rw [← hW1]; exact (hb0.alloc hb0.size _).alloc (by have := hb0.size; simp; omega) _
  have hM : AnyZI.ApAt ρ w fn sv w.heap.size (W0.heap.size + 1) W0.heap.size [] W1 :=
    ⟨⟨_, (hold w.heap.size (by omega)).trans hv0, ⟨rfl, .inl ⟨rfl, rfl⟩⟩, by simp⟩,
     by rw [← hW1]; have := World.alloc_heap_new (W0.alloc (.deferred (some []))) (.loop (AnyZI.apRec ρ fn sv w.heap.size W0.heap.size .ready none)); rwa [World.size_alloc] at this,
     by rw [← hW1]; exact (Below.heap_alloc _ _ _ (by simp)).trans (World.alloc_heap_new W0 _), hb1⟩
  have hvals := values1_in (n - 1) (W0.heap.size + 1) g A m c xs (AnyZI.ApAt ρ w fn sv w.heap.size (W0.heap.size + 1) W0.heap.size) W1 hxl hm ((hb1.cell (World.block_lt_of_cell? w _ hcell)).trans hcell) (fun s Wq hJ => hsl.below hJ.below (Nat.le_refl _))
    (fun pre x W hJ hl => AnyZI.apYield { L with } Fence.wide (n - 1 - 1) w fn trivial sv w.heap.size (W0.heap.size + 1) W0.heap.size (by omega) (by omega) (by omega) (Nat.le_refl _) (by omega) m (by unfold maxLen; omega) (by omega) pre x W hJ hl) hM
  refine ⟨W0.heap.size + 1, [{ target := .collected W0.heap.size, args := #[] }], W1, { target := .fn (.func 60) #[.pointer (some ⟨g, 0, none⟩)], args := #[.func (.yield (W0.heap.size + 1)) #[] #[]] }, W1, 60,
    #[.func (.yield (W0.heap.size + 1)) #[] #[], .pointer (some ⟨g, 0, none⟩)], W1, ?_, ?_, ?_, ?_, fun _ => h1, ?_⟩
  · rw [← hW1]; exact run_enterLoop_outer _ _ _ _ _
  · rw [hsv]; simp [resolve, go_sem]
  · intro f' hf'; trivial
  · simp [invoke, go_sem, eg]
  · refine hvals.mono ?_
    rintro e W2 ⟨⟨v0, rfl⟩, h2⟩
    obtain ⟨v, hv, hrow, hnil⟩ := h2.box
    have hend := run_endLoop (P := Tryz.prog) h2.L (by simp [AnyZI.apRec])
    obtain ⟨W3, hW3⟩ : ∃ W3, W2.putObj (W0.heap.size + 1) (.loop { AnyZI.apRec ρ fn sv w.heap.size W0.heap.size .ready none with state := .exhausted }) = W3 := ⟨_, rfl⟩
    rw [hW3] at hend
    have hg3 : W2.grownBy W3 (some (W0.heap.size + 1)) := by rw [← hW3]; exact grownBy_putObj_a _ _ _
    have hv3 : W3.heap[w.heap.size]? = some (.cells #[v] (ρ.t 24) (0, 0)) := by rw [← hW3]; exact (World.putObj_heap_other (by omega)).trans hv
    have hK3 : W3.heap[W0.heap.size]? = some (.deferred (some [])) := by rw [← hW3]; exact (World.putObj_heap_other (by omega)).trans h2.K
    have hrow3 := hrow.kept hg3 (ownsRow_ne_a hrow h2.L (fun cur e => by first | cases e | exact hne (Obj.cells.inj e).2.1))
    have hb3 : Below w.heap.size w W3 := h2.below.grown hg3 h2.below.size (fun k e => by cases e; omega)
    obtain ⟨hc3, hf3⟩ := cell_of_box_a hv3
    clear hW3
    refine ⟨none, W3, hend, ?_⟩
    gi_wp2
    rw [← hs0]
    refine ⟨by simp, .inl ⟨_, _, rfl, run_takeDeferred hK3, ?_⟩⟩
    exact ⟨_, results_tmp rfl _ _ _, v, rfl, hrow3.kept (grownBy_putObj_a _ _ _) (ownsRow_ne_a hrow3 hK3 (fun cur e => by first | cases e | exact hne (Obj.cells.inj e).2.1)), hnil, hb3.grown (grownBy_putObj_a _ _ _) hb3.size (fun k e => by cases e; omega)⟩

set_option maxRecDepth 100000 in
set_option maxHeartbeats 1000000 in
theorem collectV_in (n : Nat) (hn : 3 ≤ n) (g : Nat) (A : Option Addr) (m c : Nat) (xs : List Int) (w : World) (hcell : w.cell? ⟨g, 0, none⟩ = some (.slice A m c)) (hsl : Sl w 1 A m c (icells xs)) (hm : m ≤ 1048576) :
    CallsIn Fence.wide n Tryz.prog 58 #[.func (.func 60) #[] #[.pointer (some ⟨g, 0, none⟩)]] w fun e w' => ∃ v : Value, e = .returned v ∧ w'.ownsRow w.heap.size 3 1 v xs.length (xs.map encZ) ∧ (v = .slice none 0 0 ↔ xs = []) ∧ Below w.heap.size w w' := by
  have hA := appendV_in (n - 1) (by omega) g A m c xs w hcell hsl hm
  change CallsIn Fence.wide (n - 1) Tryz.prog 76 _ _ (fun e w' => ∃ v : Value, e = .returned v ∧ w'.ownsRow w.heap.size 3 1 v xs.length (xs.map encZ) ∧ (v = .slice none 0 0 ↔ xs = []) ∧ Below w.heap.size w w') at hA
  have hf : Fence.wide.fn 76 := trivial
  have h1 : 1 ≤ n := by omega
  refine callsIn_of_wp Tryz.func58 rfl trivial ?_ rfl
  simp only [Tryz.ntmps58, List.size_toArray, List.length_cons, List.length_nil, Nat.reduceAdd, Nat.reduceSub, Array.replicate_succ, Array.replicate_zero, List.push_toArray, List.append_toArray, List.nil_append, List.cons_append]
  gi_wp2_with (gi_at_call 76; refine hA.mono ?_; rintro e w' ⟨v, rfl, hrow, hnil, hb⟩)
  go_ret
  exact ⟨v, rfl, hrow, hnil, hb⟩

theorem slice_of_row {w : World} {B n : Nat} {v : Value} {xs : List Int} (h : w.ownsRow B 3 1 v n (xs.map encZ)) : ∃ A c, v = .slice A n c ∧ Sl w 1 A n c (icells xs) := by
  rcases h with ⟨hl, ⟨rfl, rfl⟩ | ⟨g, cap, cur, rfl, hb, hg, h1, h2, h3, h4⟩⟩
  · have : xs = [] := by simpa using hl
    subst this
    exact ⟨none, 0, rfl, Sl.nil w 1 0 (by decide)⟩
  · refine ⟨_, cap, rfl, ⟨by simpa [icells] using hl, h1, h2, fun j u hu => ⟨g, 0, rfl, ?_⟩⟩⟩
    rw [cell_of_row _ _ _ _ _ _ hg, Nat.zero_add]
    have e : icells xs = xs.map encZ := rfl
    rw [e, ← h4, List.getElem?_take] at hu
    split at hu
    · simpa using hu
    · cases hu

set_option maxRecDepth 100000 in
set_option maxHeartbeats 1000000 in
theorem sorted_any (g : Nat) (A : Option Addr) (m c : Nat) (xs : List Int) (w : World) (hcell : w.cell? ⟨g, 0, none⟩ = some (.slice A m c)) (hsl : Sl w 1 A m c (icells xs)) (hm : m ≤ 1048576) :
    Calls Tryz.prog 38 #[.func (.func 60) #[] #[.pointer (some ⟨g, 0, none⟩)]] w fun e w' => ∃ A' c', e = .returned (.slice A' m c') ∧ Sl w' 1 A' m c' (icells (xs.mergeSort fun x y => decide (x ≤ y))) ∧ Below w.heap.size w w' := by
  refine (callsIn_wide (n := 6)).1 ?_
  have hxl := hsl.ofIcells
  have hC := collectV_in 5 (by omega) g A m c xs w hcell hsl hm
  have hf : Fence.wide.fn 58 := trivial
  have hf2 : Fence.wide.fn 59 := trivial
  refine callsIn_of_wp Tryz.func38 rfl trivial ?_ rfl
  simp only [Tryz.ntmps38, List.size_toArray, List.length_cons, List.length_nil, Nat.reduceAdd, Nat.reduceSub, Array.replicate_succ, Array.replicate_zero, List.push_toArray, List.append_toArray, List.nil_append, List.cons_append]
  gi_wp2_with (gi_at_call 58; refine hC.mono ?_; rintro e W ⟨v, rfl, hrow, hnil, hb⟩)
  rcases hrow.2 with ⟨rfl, hz⟩ | ⟨gb, cap, cur, rfl, hbase, hgb, r1, r2, r3, r4⟩
  · have hss : xs = [] := List.eq_nil_of_length_eq_zero hz
    subst hss
    have hS : CallsIn Fence.wide 5 Tryz.prog 59 #[.slice none 0 0] W fun e w' => e = .returned (.tuple #[]) ∧ w' = W := (sortsIn 5).2 none 0 W
    gi_wp2_with (gi_at_call 59; refine hS.mono ?_; rintro e w' ⟨rfl, rfl⟩)
    go_ret
    have hm0 : m = 0 := by simpa using hxl.symm
    subst hm0
    exact ⟨none, 0, rfl, by simpa [icells] using Sl.nil w' 1 0 (by decide), hb⟩
  · have hH : Holds encZ W gb 0 xs.toArray := holds_of_block_i hgb (by simpa using r4)
    have hgl : gb < W.heap.size := (Array.getElem?_eq_some_iff.1 hgb).1
    have hS : CallsIn Fence.wide 5 Tryz.prog 59 #[.slice (some ⟨gb, 0, none⟩) xs.length cap] W fun e w' => e = .returned (.tuple #[]) ∧ ∃ k os, w' = grow (putRow encZ (Sort.ahead W k) gb 0 (xs.mergeSort fun x y => decide (x ≤ y)).toArray) os := (sortsIn 5).1 gb 0 cap xs W hH hgl (by omega)
    gi_wp2_with (gi_at_call 59; refine hS.mono ?_; rintro e w' ⟨rfl, nn, os, rfl⟩)
    go_ret
    have hfin := slice_of_row (ownsRow_sorted_i (ss := xs) (ts := xs.mergeSort fun x y => decide (x ≤ y)) (n := nn) (os := os) (by simp) hbase hgb r1 r2 r3)
    rw [hxl] at hfin
    obtain ⟨A', c', e', hs'⟩ := hfin
    exact ⟨A', c', by rw [← e']; rfl, hs', hb.grown (grownBy_sorted_i _) hb.size (fun j hj => by cases hj; exact hbase)⟩

set_option maxRecDepth 20000 in
theorem values_any (A : Option Addr) (n c : Nat) (w : World) :
    Calls Tryz.prog 39 #[.slice A n c] w fun e w' => e = .returned (.func (.func 60) #[] #[.pointer (some ⟨w.heap.size, 0, none⟩)]) ∧ w' = w.alloc (.cells #[.slice A n c] 38) := by
  go_enter Tryz.func39, Tryz.ntmps39
  go_wp2_with fail
  go_ret
  exact ⟨rfl, rfl⟩
end Go.Proofs.YtgoomiimlfdcmaaGreat

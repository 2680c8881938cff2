/-
  Contracts of package code's Split and Join. Condition: the coder is one that New made ('Cod').
-/
import Derived.Test.YtjacdabhlnfbkaaCaf
import Derived.BigQuiet
namespace Go.Proofs.Ytjacdabhlnfbkaa
open Go.RowKit Go.Proofs
set_option linter.unusedVariables false

/-- The i-th row of a text, W wide, filled up with noughts. -/
def cutR (l : List UInt8) (W i : Nat) : List UInt8 := rowL W fun p => l.getD (i * W + p) 0
theorem cutR_length (l : List UInt8) (W i : Nat) : (cutR l W i).length = W := rowL_length _ _
/-- The first j rows. -/
def cutL (l : List UInt8) (W j : Nat) : List (List UInt8) := (List.range j).map (cutR l W)
theorem cutL_length (l : List UInt8) (W j : Nat) : (cutL l W j).length = j := by simp [cutL]
theorem cutL_next (l : List UInt8) (W j : Nat) : cutL l W j ++ [cutR l W j] = cutL l W (j + 1) := by simp [cutL, List.range_succ]
theorem cutR_eq (l : List UInt8) (W i : Nat) : (l.drop (i * W)).take W ++ List.replicate (W - ((l.drop (i * W)).take W).length) 0 = cutR l W i := by
  apply List.ext_getElem?
  intro p
  rcases Nat.lt_or_ge p W with hp | hp
  · rw [cutR, rowL_get _ _ _ hp]
    rcases Nat.lt_or_ge p ((l.drop (i * W)).take W).length with h | h
    · rw [List.getElem?_append_left h, List.getElem?_take_of_lt hp, List.getElem?_drop]
      have : i * W + p < l.length := by rw [List.length_take, List.length_drop] at h; omega
      simp [this]
    · rw [List.getElem?_append_right h, List.getElem?_replicate, if_pos (by omega)]
      have : l.length ≤ i * W + p := by rw [List.length_take, List.length_drop] at h; omega
      simp [this]
  · rw [List.getElem?_eq_none (by rw [List.length_append, List.length_replicate]; rw [List.length_take]; omega), List.getElem?_eq_none (by rw [cutR_length]; exact hp)]

/-- copy of what there is: at most as many bytes as there is room for. -/
theorem run_copy_min {w : World} {B n c cd m : Nat} {g : Nat} {A : Option Addr} {l d : List UInt8} (h : Mine w B 5 (some ⟨g, 0, none⟩) n (cells d)) (hd : d.length = n) (hs : Sl w 1 A m c (cells l)) (ty : TypeId) :
    ∃ w', (Builtin.copy_ #[22, 22] ty #[.slice (some ⟨g, 0, none⟩) n cd, .slice A m c]).run Try.prog w = .ok (.int .i64 ((min m n : Nat) : Int)) w' ∧ Mine w' B 5 (some ⟨g, 0, none⟩) n (cells (l.take n ++ d.drop (l.take n).length)) ∧ Fr (fun k => k = g) w w' := by
  have hl := hs.len
  rw [cells_length, Nat.mul_one] at hl
  by_cases hz : min m n = 0
  · have hlt : l.take n = [] := by
      apply List.eq_nil_of_length_eq_zero
      rw [List.length_take, hl, Nat.min_comm]
      exact hz
    refine ⟨w, ?_, by rw [hlt]; simpa using h, Fr.refl _ _⟩
    have := run_copy_none (P := Try.prog) w 22 22 ty _ (some ⟨g, 0, none⟩) A n cd m c Try.underlying22 size_u8 hz
    rw [hz]
    exact this
  · obtain ⟨g', cur, hg', hB, hrow, hcur, ht⟩ := h (by omega)
    injection hg' with hg'
    injection hg' with hg' _
    subst hg'
    obtain ⟨b, o, rfl, hc⟩ := hs.at_ (k := 0) (by omega)
    have hlen : ((cells l).take n).length = min m n := by rw [List.length_take, cells_length, hl, Nat.min_comm]
    have hr := run_copy_row (P := Try.prog) w 22 22 ty 5 g 0 n cd ⟨b, o, none⟩ m c cur 5 ((cells l).take n) Try.underlying22 size_u8 hrow (by rw [hlen]) (fun j v hv => by
      rw [show (⟨b, o, none⟩ : Addr).add j = ⟨b, o + j, none⟩ from by unfold Addr.add; split <;> simp_all]
      rw [List.getElem?_take] at hv
      split at hv
      · exact hc j v hv
      · cases hv) (by rw [hlen]; omega) (fun u hu => cells_one l u (List.mem_of_mem_take hu))
    rw [hlen] at hr
    refine ⟨_, hr, fun _ => ⟨g, _, rfl, hB, setRow_heap _ _ _ _ _ _ hrow, ?_, ?_⟩, ⟨rfl, rfl, rfl, by simp, fun k hk hne => setRow_other _ _ k _ hne⟩⟩
    · simp only [List.size_toArray, List.length_append, List.length_take, List.length_drop, Array.length_toList, cells_length, hl]
      omega
    · simp only [List.take_zero, List.nil_append]
      have hlt : (l.take n).length = min m n := by rw [List.length_take, hl, Nat.min_comm]
      rw [cells_append, cells_take, hlt, cells_drop, ← ht]
      rw [List.take_append, hlen, List.take_of_length_le (l := (cells l).take n) (by rw [hlen]; omega), List.drop_take, Nat.zero_add]

theorem Mine.bound {w : World} {B n : Nat} {e : TypeId} {A : Option Addr} {xs : List Value} (h : Mine w B e A n xs) {b o : Nat} (hn : 0 < n) (e' : A = some ⟨b, o, none⟩) : B ≤ b := by
  obtain ⟨g, cur, hA, hB, _⟩ := h hn
  rw [e'] at hA
  injection hA with hA
  injection hA with hA _
  omega

set_option maxRecDepth 100000 in
set_option maxHeartbeats 3200000 in
theorem split_any (C k m F T : Nat) (A : Option Addr) (n c : Nat) (l : List UInt8) (W : Int) (hW1 : -9223372036854775808 ≤ W) (hW2 : W < 9223372036854775808) (w : World) (h : Cod w C k m F T) (hs : Sl w 1 A n c (cells l)) :
    Calls Try.prog 22 #[.pointer (some ⟨C, 0, none⟩), .slice A n c, .int .i64 W] w fun e w' => Below w.heap.size w w' ∧
      (¬ (1 ≤ W ∧ W ≤ 65536) ∧ e = .returned (.tuple #[.slice none 0 0, .int .i64 2]) ∨ (1 ≤ W ∧ W ≤ 65536) ∧ (k : Int) * W < (n : Int) ∧ e = .returned (.tuple #[.slice none 0 0, .int .i64 260]) ∨
        (1 ≤ W ∧ W ≤ 65536) ∧ (n : Int) ≤ (k : Int) * W ∧ ∃ g, e = .returned (.tuple #[.slice (some ⟨g, 0, none⟩) k k, .int .i64 0]) ∧ Gr w' (some ⟨g, 0, none⟩) k k (cutL l W.toNat k)) := by
  have hm := cmade_any C k m F T w h
  have h3 := h.n255
  have hk1 := h.k1
  have hlim := hs.lim
  have hl := hs.len
  rw [cells_length, Nat.mul_one] at hl
  unfold maxLen at hlim
  have H := Lib.hid h; clear h
  have Hs := Lib.hid hs; clear hs
  by_cases hin : 1 ≤ W ∧ W ≤ 65536
  · obtain ⟨V, hWV⟩ : ∃ V : Nat, W = (V : Int) := ⟨W.toNat, by omega⟩
    obtain ⟨hV1, hV2⟩ := hin
    have hVn : V ≤ 65536 := by omega
    have hkV : k * V ≤ 255 * 65536 := Nat.mul_le_mul (by omega) hVn
    obtain ⟨KV, hKV⟩ : ∃ KV, KV = k * V := ⟨_, rfl⟩
    have hKVi : (k : Int) * W = (KV : Int) := by rw [hKV, hWV]; simp
    rw [← hKV] at hkV
    replace hkV : KV ≤ 16711680 := by omega
    have HKV := Lib.hid hKV; clear hKV
    have HWV := Lib.hid hWV; clear hWV
    by_cases hbig : KV < n
    · go_enter Try.func22, Try.ntmps22
      go_wp2_with fail
      refine hm.mono ?_; clear hm; rintro e w1 ⟨rfl, j, hw1⟩
      have hb1 : Below w.heap.size w w1 := by rw [hw1]; exact below_drewN (Below.refl _ _) j
      clear hw1
      have c0 := (H.out.later hb1).c0
      go_wp2_with fail
      go_ret2
      exact ⟨hb1, .inr (.inl ⟨⟨hV1, hV2⟩, by rw [hKVi]; omega, rfl⟩)⟩
    · have hmk := makes_eq (k : Int) k rfl (by omega)
      have hmk2 := make_eq W V HWV.out (by omega)
      have hbig' : ¬ ((n : Int) > (KV : Int)) := by omega
      go_enter Try.func22, Try.ntmps22
      go_wp2_with fail
      refine hm.mono ?_; clear hm; rintro e w1 ⟨rfl, j, hw1⟩
      have hb1 : Below w.heap.size w w1 := by rw [hw1]; exact below_drewN (Below.refl _ _) j
      clear hw1
      have c0 := (H.out.later hb1).c0
      have hsz1 := hb1.size
      have Hb1 := Lib.hid hb1; clear hb1
      go_wp2_with fail
      clear c0
      go_loopw [1, 37] (fun v i wr => ∃ (j : Nat) (cur : Array Value) (A' : Option Addr) (n' c' : Nat), j ≤ k ∧ i = .int .i64 (j : Int) ∧ v = .slice A' n' c' ∧ Sl w 1 A' n' c' (cells (l.drop (j * V))) ∧ Enc w1 w1.heap.size k cur (cutL l V j) wr) (fun _ i _ => k - (intOf i).toNat)
      case atStart => exact ⟨0, _, A, n, c, by omega, rfl, rfl, by simpa using Hs.out, (Below.refl _ _).alloc (Nat.le_refl _) _, Fil.made w1 k, Nat.le_refl _⟩
      case round =>
        obtain ⟨j, cur, A', n', c', hj, rfl, rfl, hsl, hE⟩ := hrel
        have E := Lib.hid hE; clear hE
        have hsl' := hsl.below (Hb1.out.trans (E.out.bel.mono hsz1)) (Nat.le_refl _)
        have hlim' := hsl.lim
        have hcap' := hsl.cap
        have htop' := hsl.top
        unfold maxLen at hlim' htop'
        have hn' := hsl.len
        rw [cells_length, Nat.mul_one] at hn'
        have Hsl0 := Lib.hid hsl; clear hsl
        have Hsl := Lib.hid hsl'; clear hsl'
        have Hn' := Lib.hid hn'; clear hn'
        by_cases hlt : j < k
        · obtain ⟨v0, hv0⟩ := E.out.fil.has hlt
          have hz0 := E.out.fil.free j
          have hgs := block_lt E.out.fil.row
          have hrw := E.out.fil.row
          -- the new row, stored at its place
          have hb2 : Below wr.heap.size wr (wr.alloc (.cells (madeCells #[.int .u8 0] V) 5)) := (Below.refl _ _).alloc (Nat.le_refl _) _
          have hv0' : (wr.alloc (.cells (madeCells #[.int .u8 0] V) 5)).cell? ⟨w1.heap.size, j, none⟩ = some v0 := (hb2.cell (p := ⟨w1.heap.size, j, none⟩) hgs).trans hv0
          have hz0' : (wr.alloc (.cells (madeCells #[.int .u8 0] V) 5)).frozen? ⟨w1.heap.size, j, none⟩ = false := (hb2.frozen (p := ⟨w1.heap.size, j, none⟩) hgs).trans hz0
          obtain ⟨u, hu⟩ : ∃ u, u = (wr.setCell ⟨w1.heap.size, j, none⟩ (.slice (some ⟨wr.heap.size, 0, none⟩) V V)).alloc (.cells (madeCells #[.int .u8 0] V) 5) := ⟨_, rfl⟩
          have hszs : (wr.setCell ⟨w1.heap.size, j, none⟩ (.slice (some ⟨wr.heap.size, 0, none⟩) V V)).heap.size = wr.heap.size := by simp
          have hfu : Fr (fun k => k = w1.heap.size) wr u := by rw [hu]; exact (Fr.setCell (S := fun k => k = w1.heap.size) (Fr.refl _ _) (.inr rfl) _).alloc _
          have hgu : u.heap[w1.heap.size]? = some (.cells (cur.setIfInBounds j (.slice (some ⟨wr.heap.size, 0, none⟩) V V)) 22 (0, 0)) := by
            rw [hu]
            exact (Below.heap_alloc _ _ _ (by rw [hszs]; exact hgs)).trans (heap_setCell_same _ w1.heap.size j cur _ _ hrw)
          have hmu : Mine u w1.heap.size 5 (some ⟨wr.heap.size, 0, none⟩) V (cells (List.replicate V 0)) := by
            have := Mine.noughts (wr.setCell ⟨w1.heap.size, j, none⟩ (.slice (some ⟨wr.heap.size, 0, none⟩) V V)) V
            rw [hszs] at this
            rw [hu]
            exact this.lower (by omega)
          have hsu : Sl u 1 A' n' c' (cells (l.drop (j * V))) := Hsl0.out.below ((Hb1.out.trans (E.out.bel.mono hsz1)).trans (hfu.below (by have := E.out.bel.size; omega) (fun k hk => by have hk : k = w1.heap.size := hk; omega))) (Nat.le_refl _)
          have hcu : u.cell? ⟨w1.heap.size, j, none⟩ = some (.slice (some ⟨wr.heap.size, 0, none⟩) V V) := by
            rw [cell_of_row _ _ _ _ _ _ hgu, Array.getElem?_setIfInBounds, if_pos rfl, if_pos (by rw [E.out.fil.size]; exact hlt)]
          obtain ⟨w2, hcp, hm2, hf2⟩ := run_copy_min (cd := V) hmu (by simp) hsu 3
          have hji : (j : Int) < (k : Int) := by omega
          have hcut : (l.drop (j * V)).take V ++ (List.replicate V (0 : UInt8)).drop ((l.drop (j * V)).take V).length = cutR l V j := by rw [List.drop_replicate]; exact cutR_eq l V j
          rw [hcut] at hm2
          have hmin : min n' V ≤ n' := Nat.min_le_left _ _
          have hne : wr.heap.size ≠ w1.heap.size := by omega
          have hw2 := heap_setCell_same u 0 0
          have hg2 := hf2.row_some hgu (show ¬ w1.heap.size = wr.heap.size by omega)
          have hE2 : Enc w1 w1.heap.size k (cur.setIfInBounds j (.slice (some ⟨wr.heap.size, 0, none⟩) (cutR l V j).length V)) (cutL l V j ++ [cutR l V j]) w2 := by
            have hf12 : Fr (fun k => k = w1.heap.size) wr w2 := by
              refine ⟨hf2.os.trans hfu.os, hf2.tape.trans hfu.tape, hf2.output.trans hfu.output, Nat.le_trans hfu.size hf2.size, fun b hb hnb => ?_⟩
              exact (hf2.block b (Nat.lt_of_lt_of_le hb hfu.size) (show ¬ b = wr.heap.size by omega)).trans (hfu.block b hb hnb)
            have hsl2 : Sl w2 1 (some ⟨wr.heap.size, 0, none⟩) (cutR l V j).length V (cells (cutR l V j)) := by rw [cutR_length]; exact hm2.sl (cutR_length _ _ _) (Nat.le_refl _) (by unfold maxLen; omega)
            exact ⟨E.out.bel.trans (hf12.below (by have := E.out.bel.size; omega) (fun k hk => by have hk : k = w1.heap.size := hk; omega)), E.out.fil.next hf12 (cutL_length _ _ _) hlt (by rw [cutR_length]; exact hg2) hsl2 (fun b o hn e => by injection e with e; injection e with e _; omega), Nat.le_refl _⟩
          rw [cutL_next] at hE2
          have E2 := Lib.hid hE2
          have Hu := Lib.hid hu
          have Hnext := Lib.hid (show Sl w 1 (A'.map (·.add (min n' V))) (n' - min n' V) (c' - min n' V) (cells (l.drop ((j + 1) * V))) from by
            have := Hsl0.out.sub1 (min n' V) n' (c' - min n' V) (by omega) (Nat.le_refl _) (by omega) (by unfold maxLen; omega)
            rw [List.drop_drop, List.take_of_length_le (by rw [List.length_drop]; have := Hn'.out; rw [List.length_drop] at this; omega)] at this
            rcases Nat.le_total V n' with hvn | hvn
            · rw [Nat.min_eq_right hvn] at this ⊢
              rwa [show j * V + V = (j + 1) * V by rw [Nat.add_mul, Nat.one_mul]] at this
            · rw [Nat.min_eq_left hvn] at this ⊢
              have e1 : l.drop (j * V + n') = [] := List.drop_of_length_le (by have := Hn'.out; rw [List.length_drop] at this; omega)
              have e2 : l.drop ((j + 1) * V) = [] := List.drop_of_length_le (by have := Hn'.out; rw [List.length_drop] at this; rw [Nat.add_mul, Nat.one_mul]; omega)
              rw [e1] at this
              rw [e2]
              exact this)
          clear hE2 hm2 hf2 hsu hmu hgu hfu hz0 hv0 hb2 hrw hg2 hw2 hcut hne
          obtain ⟨q, hq⟩ : ∃ q, q = min n' V := ⟨_, rfl⟩
          have hcq : c' - q ≤ c' := Nat.sub_le _ _
          rw [← hq] at Hnext hmin hcp
          rw [hu] at hcu hcp
          clear hq hu hszs Hu
          go_wp2_with fail
          go_roundw
          case rel => exact ⟨j + 1, _, _, _, _, by omega, by go_num, rfl, by
            split
            · have hS := Hnext.out
              have hz : n' - q = 0 := by omega
              rw [hz] at hS ⊢
              have hcl : cells (l.drop ((j + 1) * V)) = [] := List.eq_nil_of_length_eq_zero (by have := hS.len; rw [Nat.zero_mul] at this; exact this)
              rw [hcl]
              exact Sl.empty _ _ _ _ hS.top
            · exact Hnext.out, E2.out⟩
          case measure => simp [intOf]; omega
        · obtain rfl : j = k := by omega
          go_wp2_with fail
          go_ret2
          exact ⟨Hb1.out.trans (E.out.bel.mono hsz1), .inr (.inr ⟨⟨hV1, hV2⟩, by rw [hKVi]; omega, w1.heap.size, rfl, by rw [HWV.out, Int.toNat_natCast]; exact E.out.fil.gr (cutL_length _ _ _) (by unfold maxLen; omega)⟩)⟩
  · by_cases hlow : W < 1
    · go_enter Try.func22, Try.ntmps22
      go_wp2_with fail
      refine hm.mono ?_; clear hm; rintro e w1 ⟨rfl, j, hw1⟩
      have hb1 : Below w.heap.size w w1 := by rw [hw1]; exact below_drewN (Below.refl _ _) j
      clear hw1
      have Hin := Lib.hid hin; clear hin
      go_wp2_with fail
      go_ret2
      exact ⟨hb1, .inl ⟨Hin.out, rfl⟩⟩
    · have hhi : 65536 < W := by omega
      go_enter Try.func22, Try.ntmps22
      go_wp2_with fail
      refine hm.mono ?_; clear hm; rintro e w1 ⟨rfl, j, hw1⟩
      have hb1 : Below w.heap.size w w1 := by rw [hw1]; exact below_drewN (Below.refl _ _) j
      clear hw1
      have Hin := Lib.hid hin; clear hin
      go_wp2_with fail
      go_ret2
      exact ⟨hb1, .inl ⟨Hin.out, rfl⟩⟩
end Go.Proofs.Ytjacdabhlnfbkaa

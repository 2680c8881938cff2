/-
  Contracts of the document's answers of layer 5: May, Factor, Row, Even, and of the statements' own Few. No condition but bounds.
  Contracts of the document's Shard and All of layer 5. No condition but bounds.
  Contracts of the document's Split, Join, Same of layer 5, and of the statements' own sum of rows. No condition but bounds.
  Contracts of the document's Same of layer 5, and of the statements' own sum of rows. No condition.
  The statements' own examples of layer 5 ('codes') answer true. No condition.
  CodeSplits returns true, whatever its arguments. No condition.
  CodeBack returns true, whatever its arguments. No condition.
  Toward CodeAdds: parity goes over sums, in plain words; append of a row as a step of a region that draws; rows of no bytes. No condition.
-/
import Derived.Test.YtabcmjbcnmedhaaGreatHa
import Derived.BigQuiet
import Derived.Test.YtabcmjbcnmedhaaGreatHb
import Derived.StillTailTactics
import Derived.Test.YtabcmjbcnmedhaaGreatGd
namespace Go.Proofs.YtabcmjbcnmedhaaGreat
open Go.RowKit Go.Proofs
set_option linter.unusedVariables false

theorem xor_wrap (i j : Nat) : bits .xor .u8 (IntKind.u8.wrap (i : Int)) (IntKind.u8.wrap (j : Int)) = ((UInt8.ofNat i ^^^ UInt8.ofNat j).toNat : Int) := by
  rw [← xor_b, IntKind.wrap_u8, IntKind.wrap_u8, UInt8.toNat_ofNat', UInt8.toNat_ofNat']
  simp
theorem ofNat_xor_ne {i j : Nat} (hi : i < 256) (hj : j < 256) (h : i ≠ j) : UInt8.ofNat i ^^^ UInt8.ofNat j ≠ 0 := fun e => h (ofNat_inj hi hj (ux_eq e))

theorem drewN_more {w wr : World} {j : Nat} (h : ∃ k, wr = w.drewN k) : ∃ k, wr.drewN j = w.drewN k := by
  obtain ⟨k, rfl⟩ := h
  exact ⟨k + j, by rw [drewN_add]⟩
/-- What Few answers: true of few rows, and short ones alone. -/
def RetFew (n : Nat) (rs : List (List UInt8)) (w : World) (e : Ending) (w' : World) : Prop := w' = w ∧ ∃ b, e = .returned (.bool b) ∧ (b = true → n ≤ 260 ∧ ∀ r ∈ rs, r.length ≤ 3000)
set_option maxRecDepth 20000 in
set_option maxHeartbeats 800000 in
theorem few5_any (x : Int) (A : Option Addr) (n c : Nat) (rs : List (List UInt8)) (w : World) (h : Gr w A n c rs) :
    Calls Tryz.prog 7 #[.int .i64 x, .slice A n c] w (RetFew n rs w) := by
  have hlim := h.lim
  have hlen := h.len
  unfold maxLen at hlim
  have H := Lib.hid h; clear h
  have Hlen := Lib.hid hlen; clear hlen
  go_enter Tryz.func7, Tryz.ntmps7
  go_wp2_with fail
  go_loopw [5, 6] (fun z i wr => ∃ (j : Nat) (y : Int), j ≤ n ∧ j ≤ 300 ∧ i = .int .i64 (j : Int) ∧ z = .int .i64 y ∧ y ≤ 3000 ∧ 3000 - 4000 * (j : Int) ≤ y ∧ (∀ x, x < j → (min (rs.getD x []).length 4000 : Nat) + y ≤ 3000) ∧ wr = w) (fun _ i _ => 300 - (intOf i).toNat)
  case atStart => exact ⟨0, 3000, by omega, by omega, rfl, rfl, by omega, by omega, fun j hj => absurd hj (by omega), rfl⟩
  case round =>
    obtain ⟨j, y, hj, hj3, rfl, rfl, hy1, hy2, hall, rfl⟩ := hrel
    have Hall := Lib.hid hall; clear hall
    by_cases hlt : j < n
    · by_cases hlt3 : j < 300
      · obtain ⟨b, o, rfl, hc⟩ := H.out.at_ (by omega)
        obtain ⟨A1, c1, hc1, hs1⟩ := hc j _ (H.out.get hlt)
        obtain ⟨L1, hL1⟩ : ∃ L, L = (rs.getD j []).length := ⟨_, rfl⟩
        rw [← hL1] at hc1 hs1
        have hm1 := hs1.lim
        unfold maxLen at hm1
        clear hc hs1
        have HL1 := Lib.hid hL1; clear hL1
        rcases Nat.lt_or_ge L1 4000 with hq | hq
        · have hmin : min (L1 : Int) 4000 = (L1 : Int) := by omega
          go_wp2_with fail
          go_roundw
          case rel => exact ⟨j + 1, y - (L1 : Int), by omega, by omega, by go_num, by first | rfl | (congr 1; omega), by omega, by omega, fun x hx => by
            by_cases hxj : x = j
            · subst hxj
              rw [← HL1.out]
              omega
            · have := Hall.out x (by omega)
              omega, trivial⟩
          case measure => simp [intOf]; omega
        · have hmin : min (L1 : Int) 4000 = 4000 := by omega
          go_wp2_with fail
          go_roundw
          case rel => exact ⟨j + 1, y - 4000, by omega, by omega, by go_num, by first | rfl | (congr 1; omega), by omega, by omega, fun x hx => by
            by_cases hxj : x = j
            · subst hxj
              rw [← HL1.out]
              omega
            · have := Hall.out x (by omega)
              omega, trivial⟩
          case measure => simp [intOf]; omega
      · have hbig : ¬ ((n : Int) ≤ 260) := by omega
        go_wp2_with fail
        go_ret
        exact ⟨rfl, false, rfl, fun h => by cases h⟩
    · obtain rfl : j = n := by omega
      by_cases h260 : j ≤ 260
      · by_cases hy0 : 0 ≤ y
        · go_wp2_with fail
          go_ret
          refine ⟨rfl, true, rfl, fun _ => ⟨h260, fun r hr => ?_⟩⟩
          obtain ⟨i, hi, rfl⟩ := List.mem_iff_getElem.1 hr
          have := Hall.out i (by rw [← Hlen.out]; exact hi)
          rw [show rs.getD i [] = rs[i] from by simp [hi]] at this
          omega
        · go_wp2_with fail
          go_ret
          exact ⟨rfl, false, rfl, fun h => by cases h⟩
      · go_wp2_with fail
        go_ret
        exact ⟨rfl, false, rfl, fun h => by cases h⟩
end Go.Proofs.YtabcmjbcnmedhaaGreat

namespace Go.Proofs.YtabcmjbcnmedhaaGreat
open Go.RowKit Go.Proofs
set_option linter.unusedVariables false

theorem shard_at (k : Nat) (rs : List (List UInt8)) (i p : Nat) (hp : p < (rs.getD 0 []).length) : (shard k rs i)[p]? = some (xs k fun j => gm (facB k i j) ((rs.getD j []).getD p 0)) := by
  rw [shard, sumR, rowL_get _ _ _ hp]
  congr 1
  exact xs_congr k fun j hj => by rw [rowC_getD k i j hj]
theorem shard_length (k : Nat) (rs : List (List UInt8)) (i : Nat) : (shard k rs i).length = (rs.getD 0 []).length := sumR_length _ _ _ _

/-- The first j shards. -/
def allL (k : Nat) (rs : List (List UInt8)) (j : Nat) : List (List UInt8) := (List.range j).map (shard k rs)
theorem allL_length (k : Nat) (rs : List (List UInt8)) (j : Nat) : (allL k rs j).length = j := by simp [allL]
theorem allL_next (k : Nat) (rs : List (List UInt8)) (j : Nat) : allL k rs j ++ [shard k rs j] = allL k rs (j + 1) := by simp [allL, List.range_succ]
theorem shard_data (k : Nat) (rs : List (List UInt8)) (i : Nat) (hi : i < k) (hl : rs.length = k) (hlv : levelB rs = true) : shard k rs i = rs.getD i [] := by
  apply List.ext_getElem?
  intro p
  rcases Nat.lt_or_ge p (rs.getD 0 []).length with hp | hp
  · rw [shard_at k rs i p hp, xs_one i k hi (fun j hj hne => by rw [facB, if_pos hi, if_neg (fun e => hne e.symm), zero_gm]), facB, if_pos hi, if_pos rfl, one_gm]
    rw [List.getD_eq_getElem?_getD (l := rs.getD i []), List.getElem?_eq_getElem (by rw [levelB_at hlv (by omega)]; exact hp), Option.getD_some]
  · rw [List.getElem?_eq_none (by rw [shard_length]; exact hp), List.getElem?_eq_none (by rw [levelB_at hlv (by omega)]; exact hp)]
theorem allL_eq (k m : Nat) (rs : List (List UInt8)) (hl : rs.length = k) (hlv : levelB rs = true) : allL k rs (k + m) = rs ++ parL k rs m := by
  apply List.ext_getElem?
  intro i
  rcases Nat.lt_or_ge i k with hi | hi
  · rw [List.getElem?_append_left (by omega)]
    rw [allL, List.getElem?_map, List.getElem?_range (by omega), Option.map_some, shard_data k rs i hi hl hlv]
    simp [show i < rs.length from by omega]
  · rw [List.getElem?_append_right (by omega), hl, allL, parL, List.getElem?_map, List.getElem?_map]
    rcases Nat.lt_or_ge i (k + m) with h2 | h2
    · rw [List.getElem?_range (by omega), List.getElem?_range (by omega), Option.map_some, Option.map_some, show k + (i - k) = i from by omega]
    · rw [List.getElem?_eq_none (by simpa using h2), List.getElem?_eq_none (by simp; omega), Option.map_none, Option.map_none]

end Go.Proofs.YtabcmjbcnmedhaaGreat

namespace Go.Proofs.YtabcmjbcnmedhaaGreat
open Go.RowKit Go.Proofs
set_option linter.unusedVariables false

/-- The first p bytes of a row that is cut, noughts behind. -/
def cutN (l : List UInt8) (W i p : Nat) : List UInt8 := rowL W fun x => if x < p then l.getD (i * W + x) 0 else 0
theorem cutN_zero (l : List UInt8) (W i : Nat) : cutN l W i 0 = List.replicate W 0 := by
  apply List.ext_getElem
  · simp [cutN, rowL]
  · intro x h1 h2
    simp [cutN, rowL]
theorem cutN_length (l : List UInt8) (W i p : Nat) : (cutN l W i p).length = W := rowL_length _ _
theorem cutN_all (l : List UInt8) (W i p : Nat) (h : W ≤ p ∨ l.length ≤ i * W + p) : cutN l W i p = cutR l W i := by
  apply rowL_congr
  intro x hx
  by_cases hxp : x < p
  · rw [if_pos hxp]
  · rw [if_neg hxp]
    have : l.length ≤ i * W + x := by omega
    simp [this]
theorem cutN_at (l : List UInt8) (W i p : Nat) (h : p < W) : (cutN l W i p)[p]? = some 0 := by rw [cutN, rowL_get _ _ _ h, if_neg (by omega)]
theorem cutN_set (l : List UInt8) (W i p : Nat) (h : p < W) : (cutN l W i p).set p (l.getD (i * W + p) 0) = cutN l W i (p + 1) := by
  apply List.ext_getElem
  · simp [cutN, rowL]
  · intro x h1 h2
    rw [List.getElem_set]
    by_cases he : p = x
    · subst he
      simp [cutN, rowL]
    · rw [if_neg he]
      have h3 : (x < p + 1) = (x < p) := by apply propext; omega
      simp only [cutN, rowL, List.getElem_map, List.getElem_range, h3]

end Go.Proofs.YtabcmjbcnmedhaaGreat

namespace Go.Proofs.YtabcmjbcnmedhaaGreat
open Go.RowKit Go.Proofs
set_option linter.unusedVariables false

set_option maxRecDepth 20000 in
set_option maxHeartbeats 1600000 in
theorem rsame5_any (A : Option Addr) (n c : Nat) (rs : List (List UInt8)) (A2 : Option Addr) (n2 c2 : Nat) (qs : List (List UInt8)) (w : World) (h : Gr w A n c rs) (h2 : Gr w A2 n2 c2 qs) :
    Calls Tryz.prog 17 #[.slice A n c, .slice A2 n2 c2] w fun e w' => e = .returned (.bool (decide (rs = qs))) ∧ Below w.heap.size w w' := by
  have hlim := h.lim
  have hlim2 := h2.lim
  have hlen := h.len
  have hlen2 := h2.len
  unfold maxLen at hlim hlim2
  have H := Lib.hid h; clear h
  have H2 := Lib.hid h2; clear h2
  have Hlen := Lib.hid hlen; clear hlen
  have Hlen2 := Lib.hid hlen2; clear hlen2
  by_cases hn : n = n2
  · subst hn
    go_enter Tryz.func17, Tryz.ntmps17
    go_wp2_with fail
    go_loopw [5] (fun i wr => ∃ j : Nat, j ≤ n ∧ i = .int .i64 (j : Int) ∧ (∀ x, x < j → rs.getD x [] = qs.getD x []) ∧ Below w.heap.size w wr) (fun i _ => n - (intOf i).toNat)
    case atStart => exact ⟨0, by omega, rfl, fun j hj => absurd hj (by omega), Below.refl _ _⟩
    case round =>
      obtain ⟨j, hj, rfl, hall, hb⟩ := hrel
      have Hall := Lib.hid hall; clear hall
      by_cases hlt : j < n
      · obtain ⟨b, o, rfl, hc⟩ := (H.out.later hb).at_ (by omega)
        obtain ⟨A1, c1, hc1, hs1⟩ := hc j _ (H.out.get hlt)
        obtain ⟨b2, o2, rfl, hcc⟩ := (H2.out.later hb).at_ (by omega)
        obtain ⟨A3, c3, hc3, hs3⟩ := hcc j _ (H2.out.get hlt)
        obtain ⟨r, hr⟩ : ∃ r, r = rs.getD j [] := ⟨_, rfl⟩
        obtain ⟨q, hq⟩ : ∃ q, q = qs.getD j [] := ⟨_, rfl⟩
        rw [← hr] at hc1 hs1
        rw [← hq] at hc3 hs3
        have k1 : ∀ u, (convert 30 9 (.slice A1 r.length c1)).run Tryz.prog (wr.drewN u) = .ok (.string (bstr r)) (wr.drewN u) := fun u => str_of (hs1.drewN u)
        have k3 : ∀ u, (convert 30 9 (.slice A3 q.length c3)).run Tryz.prog (wr.drewN u) = .ok (.string (bstr q)) (wr.drewN u) := fun u => str_of (hs3.drewN u)
        clear hc hcc hs1 hs3
        have Hr := Lib.hid hr; clear hr
        have Hq := Lib.hid hq; clear hq
        have hji : (j : Int) < (n : Int) := by omega
        by_cases heq : r = q
        · have hz : ((bstr r).toList == (bstr q).toList) = true := by rw [bstr_toList, bstr_toList]; simpa using heq
          have Heq := Lib.hid heq; clear heq
          go_wp2_with fail
          go_quiet (fail)
          go_wp2_with fail
          go_roundw
          case rel => exact ⟨j + 1, by omega, by go_num, fun x hx => by
            by_cases hxj : x = j
            · subst hxj
              rw [← Hr.out, ← Hq.out, Heq.out]
            · exact Hall.out x (by omega), below_drewN hb nq⟩
          case measure => simp [intOf]; omega
        · have hz : ((bstr r).toList == (bstr q).toList) = false := by rw [bstr_toList, bstr_toList]; simpa using heq
          have Heq := Lib.hid heq; clear heq
          go_wp2_with fail
          go_quiet (fail)
          go_wp2_with fail
          go_ret
          have : decide (rs = qs) = false := decide_eq_false fun hh => Heq.out (by rw [Hr.out, Hq.out, hh])
          exact ⟨by rw [this]; rfl, below_drewN hb nq⟩
      · obtain rfl : j = n := by omega
        go_wp2_with fail
        go_ret
        have : decide (rs = qs) = true := decide_eq_true (by
          apply List.ext_getElem
          · rw [Hlen.out, Hlen2.out]
          · intro x h1 h2
            have := Hall.out x (by rw [← Hlen.out]; exact h1)
            simpa [h1, h2] using this)
        exact ⟨by rw [this]; rfl, hb⟩
  · have hz : ((n : Int) != (n2 : Int)) = true := by simp; omega
    have hd : decide (rs = qs) = false := decide_eq_false fun hh => hn (by rw [← Hlen.out, ← Hlen2.out, hh])
    have Hd := Lib.hid hd; clear hd hn
    go_enter Tryz.func17, Tryz.ntmps17
    go_wp2_with fail
    go_ret
    exact ⟨by rw [Hd.out]; rfl, Below.refl _ _⟩

/-- Two rows' sum, as far as both go. -/
def addL (a b : List UInt8) : List UInt8 := List.zipWith (· ^^^ ·) a b
theorem addL_length (a b : List UInt8) : (addL a b).length = min a.length b.length := by simp [addL]

end Go.Proofs.YtabcmjbcnmedhaaGreat

namespace Go.Proofs.YtabcmjbcnmedhaaGreat
open Go.RowKit Go.Proofs
set_option linter.unusedVariables false

theorem cnew_at (F T : Nat) (k m : Int) (K M : Nat) (hk : k = (K : Int)) (hm : m = (M : Int)) (h : 1 ≤ K ∧ 1 ≤ M ∧ K + M ≤ 255) (w : World) (hf : Fld w F T) :
    Calls Tryz.prog 12 #[.pointer (some ⟨F, 0, none⟩), .int .i64 k, .int .i64 m] w fun e w' => ∃ C, e = .returned (.pointer (some ⟨C, 0, none⟩)) ∧ Cod w' C K M F T ∧ Fr (Ft T) w w' := by
  refine (cnew_any F T k m (by omega) (by omega) w hf).mono ?_; rintro e w' ⟨hR, _, hr⟩
  rcases hR with ⟨hno, _⟩ | ⟨K', M', C, h1, h2, he, hC⟩
  · rw [mayB_t (by omega)] at hno
    cases hno
  · obtain rfl : K' = K := by omega
    obtain rfl : M' = M := by omega
    exact ⟨C, he, hC, hr⟩
theorem cnew_no (F T : Nat) (k m : Int) (hk : -9223372036854775808 ≤ k ∧ k < 9223372036854775808) (hm : -9223372036854775808 ≤ m ∧ m < 9223372036854775808) (h : mayB k m = false) (w : World) (hf : Fld w F T) :
    Calls Tryz.prog 12 #[.pointer (some ⟨F, 0, none⟩), .int .i64 k, .int .i64 m] w fun e w' => e = .returned (.pointer none) ∧ Fld1 w' F T ∧ Fr (Ft T) w w' := by
  refine (cnew_any F T k m hk hm w hf).mono ?_; rintro e w' ⟨hR, h1, hr⟩
  rcases hR with ⟨_, he⟩ | ⟨K', M', C, e1, e2, _, hC⟩
  · exact ⟨he, h1, hr⟩
  · rw [mayB_t (by have := hC.k1; have := hC.m1; have := hC.n255; omega)] at h
    cases h

theorem sl_blk {w : World} {g : Nat} {cs : Array Value} {l : List UInt8} (hg : w.heap[g]? = some (.cells cs 5 (0, 0))) (hc : cs.toList = cells l) (hl : l.length ≤ maxLen) : Sl w 1 (some ⟨g, 0, none⟩) l.length l.length (cells l) :=
  ⟨by rw [cells_length, Nat.mul_one], Nat.le_refl _, hl, fun j u hu => ⟨g, 0, rfl, by rw [cell_of_row _ _ _ _ _ _ hg, Nat.zero_add]; rw [← hc] at hu; simpa using hu⟩⟩
theorem gr_lit1 (w : World) (cs : Array Value) (l : List UInt8) (hc : cs.toList = cells l) (hl : l.length ≤ maxLen) : Gr ((w.alloc (.cells cs 5)).alloc (.cells #[.slice (some ⟨w.heap.size, 0, none⟩) l.length l.length] 30)) (some ⟨w.heap.size + 1, 0, none⟩) 1 1 [l] := by
  have h1 := sl_blk (heap_alloc_new w (.cells cs 5)) hc hl
  have h2 := heap_alloc_new (w.alloc (.cells cs 5)) (.cells #[.slice (some ⟨w.heap.size, 0, none⟩) l.length l.length] 30)
  rw [show (w.alloc (.cells cs 5)).heap.size = w.heap.size + 1 from by simp] at h2
  exact Gr.one h2 (h1.alloc _)
theorem gr_lit2 (w : World) (cs cs2 : Array Value) (l l2 : List UInt8) (hc : cs.toList = cells l) (hc2 : cs2.toList = cells l2) (hl : l.length ≤ maxLen) (hl2 : l2.length ≤ maxLen) :
    Gr (((w.alloc (.cells cs 5)).alloc (.cells cs2 5)).alloc (.cells #[.slice (some ⟨w.heap.size, 0, none⟩) l.length l.length, .slice (some ⟨w.heap.size + 1, 0, none⟩) l2.length l2.length] 30)) (some ⟨w.heap.size + 1 + 1, 0, none⟩) 2 2 [l, l2] := by
  have h1 := sl_blk (heap_alloc_new w (.cells cs 5)) hc hl
  have h2 := sl_blk (heap_alloc_new (w.alloc (.cells cs 5)) (.cells cs2 5)) hc2 hl2
  have h3 := heap_alloc_new ((w.alloc (.cells cs 5)).alloc (.cells cs2 5)) (.cells #[.slice (some ⟨w.heap.size, 0, none⟩) l.length l.length, .slice (some ⟨w.heap.size + 1, 0, none⟩) l2.length l2.length] 30)
  rw [show (w.alloc (.cells cs 5)).heap.size = w.heap.size + 1 from by simp] at h2
  rw [show ((w.alloc (.cells cs 5)).alloc (.cells cs2 5)).heap.size = w.heap.size + 1 + 1 from by simp] at h3
  refine ⟨⟨[.slice (some ⟨w.heap.size, 0, none⟩) l.length l.length, .slice (some ⟨w.heap.size + 1, 0, none⟩) l2.length l2.length], ⟨rfl, Nat.le_refl _, by decide, fun j u hu => ⟨w.heap.size + 1 + 1, 0, rfl, ?_⟩⟩, fun i r hi => ?_⟩, rfl⟩
  · rw [cell_of_row _ _ _ _ _ _ h3, Nat.zero_add]
    simpa using hu
  · rcases i with _ | i
    · simp at hi
      subst hi
      exact ⟨_, _, rfl, (h1.alloc _).alloc _⟩
    · rcases i with _ | i
      · simp at hi
        subst hi
        exact ⟨_, _, rfl, h2.alloc _⟩
      · simp at hi

theorem par_11 : parL 1 [[7, 9]] 1 = [[7, 9]] := by decide +kernel
theorem par_21 : parL 2 [[1], [1]] 1 = [[122]] := by decide +kernel
theorem row_11 : rowC 1 1 = [1] := by decide +kernel

/-- In a law's call that began in w0: a field at F, T of its own, whose tables are made. -/
structure Lw (w0 : World) (F T : Nat) (w : World) : Prop where
  bel : Below w0.heap.size w0 w
  fld : Fld1 w F T
  new : w0.heap.size ≤ T
theorem Lw.later {w0 w w' : World} {F T : Nat} (h : Lw w0 F T w) (hb : Below w.heap.size w w') : Lw w0 F T w' := ⟨h.bel.trans (hb.mono h.bel.size), h.fld.later hb, h.new⟩
theorem Lw.of {w0 w1 w2 : World} {F T : Nat} (hb : Below w0.heap.size w0 w1) (hT : w0.heap.size ≤ T) (hr : Fr (Ft T) w1 w2) (hf : Fld1 w2 F T) : Lw w0 F T w2 := ⟨hb.trans (hr.below hb.size (by rintro k rfl; exact hT)), hf, hT⟩

end Go.Proofs.YtabcmjbcnmedhaaGreat

namespace Go.Proofs.YtabcmjbcnmedhaaGreat
open Go.RowKit Go.Proofs
set_option linter.unusedVariables false

/-- What Split makes. -/
def splL (k W : Int) (l : List UInt8) : List (List UInt8) := if ¬ (1 ≤ W ∧ W ≤ 65536) then [] else if k * W < (l.length : Int) then [] else cutL l W.toNat k.toNat
def splX (k W : Int) (l : List UInt8) : Int := if ¬ (1 ≤ W ∧ W ≤ 65536) then 2 else if k * W < (l.length : Int) then 260 else 0
/-- What a call answers that makes rows, and an error's number. -/
def RetRows (rs : List (List UInt8)) (x : Int) (w : World) (e : Ending) (w' : World) : Prop := (∃ A n c, e = .returned (.tuple #[.slice A n c, .int .i64 x]) ∧ Gr w' A n c rs) ∧ Below w.heap.size w w'
/-- What a call answers that makes bytes, and an error's number. -/
def RetByx (l : List UInt8) (x : Int) (w : World) (e : Ending) (w' : World) : Prop := (∃ A n c, e = .returned (.tuple #[.slice A n c, .int .i64 x]) ∧ Sl w' 1 A n c (cells l)) ∧ Below w.heap.size w w'
theorem csplit_all (C k m F T : Nat) (A : Option Addr) (c : Nat) (l : List UInt8) (W : Int) (hW1 : -9223372036854775808 ≤ W) (hW2 : W < 9223372036854775808) (w : World) (h : Cod w C k m F T) (hs : Sl w 1 A l.length c (cells l)) :
    Calls Tryz.prog 14 #[.pointer (some ⟨C, 0, none⟩), .slice A l.length c, .int .i64 W] w (RetRows (splL (k : Int) W l) (splX (k : Int) W l) w) := by
  refine (split_any C k m F T A l.length c l W hW1 hW2 w h hs).mono ?_; rintro e w' ⟨hb, hR⟩
  rcases hR with ⟨h1, rfl⟩ | ⟨h1, h2, rfl⟩ | ⟨h1, h2, g, rfl, hg⟩
  · rw [splL, if_pos h1, splX, if_pos h1]
    exact ⟨⟨none, 0, 0, rfl, Gr.nil _ 0 (by decide)⟩, hb⟩
  · rw [splL, if_neg (fun hh => hh h1), if_pos h2, splX, if_neg (fun hh => hh h1), if_pos h2]
    exact ⟨⟨none, 0, 0, rfl, Gr.nil _ 0 (by decide)⟩, hb⟩
  · rw [splL, if_neg (fun hh => hh h1), if_neg (by omega), splX, if_neg (fun hh => hh h1), if_neg (by omega), Int.toNat_natCast]
    exact ⟨⟨_, _, _, rfl, hg⟩, hb⟩
instance okJ_dec (rs : List (List UInt8)) (k S : Int) : Decidable (okJ rs k S) := by unfold okJ; infer_instance
/-- What Join makes. -/
def joiL (k S : Int) (rs : List (List UInt8)) : List UInt8 := if okJ rs k S then rs.flatten.take S.toNat else []
def joiX (k S : Int) (rs : List (List UInt8)) : Int := if okJ rs k S then 0 else 2
end Go.Proofs.YtabcmjbcnmedhaaGreat

namespace Go.Proofs.YtabcmjbcnmedhaaGreat
open Go.RowKit Go.Proofs
set_option linter.unusedVariables false

theorem flat_cut (l : List UInt8) (V : Nat) : ∀ j, (cutL l V j).flatten = rowL (j * V) fun p => l.getD p 0
  | 0 => by simp [cutL, rowL]
  | j + 1 => by
    rw [← cutL_next, List.flatten_append, flat_cut l V j, show [cutR l V j].flatten = cutR l V j by simp, cutR, rowL_append, Nat.add_mul, Nat.one_mul]
    apply rowL_congr
    intro p hp
    by_cases h : p < j * V
    · rw [if_pos h]
    · rw [if_neg h, show j * V + (p - j * V) = p by omega]
theorem cut_back (l : List UInt8) (V k : Nat) (h : l.length ≤ k * V) : (cutL l V k).flatten.take l.length = l := by
  rw [flat_cut]
  apply List.ext_getElem?
  intro p
  rw [List.getElem?_take]
  split
  · rename_i hp
    rw [rowL_get _ _ _ (by omega)]
    simp [hp]
  · rename_i hp
    rw [List.getElem?_eq_none (by omega)]
theorem cut_len (l : List UInt8) (V k : Nat) : (cutL l V k).flatten.length = k * V := by rw [flat_cut, rowL_length]
theorem cut_getD (l : List UInt8) (V k j : Nat) (h : j < k) : (cutL l V k).getD j [] = cutR l V j := by simp [cutL, h]
theorem cut_even (l : List UInt8) (V k : Nat) : evenB (cutL l V k) (k : Int) = true := by
  rw [evenB, cutL_length, decide_eq_true rfl, Bool.true_and]
  refine decide_eq_true fun j hj => ?_
  rw [cutL_length] at hj
  rw [cut_getD l V k j hj, cut_getD l V k 0 (by omega), cutR_length, cutR_length]
theorem cut_rows (l : List UInt8) (V k : Nat) : ∀ r ∈ cutL l V k, r.length = V := by
  intro r hr
  obtain ⟨j, _, rfl⟩ := List.mem_map.1 hr
  exact cutR_length _ _ _

end Go.Proofs.YtabcmjbcnmedhaaGreat

namespace Go.Proofs.YtabcmjbcnmedhaaGreat
open Go.RowKit Go.Proofs
set_option linter.unusedVariables false

theorem addL_rowL (W : Nat) (f g : Nat → UInt8) : addL (rowL W f) (rowL W g) = rowL W fun p => f p ^^^ g p := by
  apply List.ext_getElem
  · simp [addL, rowL]
  · intro i h1 h2
    simp [addL, rowL]
/-- The first j rows' sums. -/
def bothL (a b : List UInt8) (V j : Nat) : List (List UInt8) := (List.range j).map fun i => addL (cutR a V i) (cutR b V i)
theorem bothL_length (a b : List UInt8) (V j : Nat) : (bothL a b V j).length = j := by simp [bothL]
theorem bothL_next (a b : List UInt8) (V j : Nat) : bothL a b V j ++ [addL (cutR a V j) (cutR b V j)] = bothL a b V (j + 1) := by simp [bothL, List.range_succ]
theorem bothL_getD (a b : List UInt8) (V k j : Nat) (h : j < k) : (bothL a b V k).getD j [] = addL (cutR a V j) (cutR b V j) := by simp [bothL, h]
theorem bothL_rows (a b : List UInt8) (V k : Nat) : ∀ r ∈ bothL a b V k, r.length = V := by
  intro r hr
  obtain ⟨j, _, rfl⟩ := List.mem_map.1 hr
  rw [addL_length, cutR_length, cutR_length, Nat.min_self]
theorem even_of {rs : List (List UInt8)} {k V : Nat} (hl : rs.length = k) (h : ∀ r ∈ rs, r.length = V) : evenB rs (k : Int) = true := by
  rw [evenB, hl, decide_eq_true rfl, Bool.true_and]
  refine decide_eq_true fun j hj => ?_
  have h1 : ∀ i, i < rs.length → (rs.getD i []).length = V := fun i hi => by
    rw [show rs.getD i [] = rs[i] from by simp [hi]]
    exact h _ (List.getElem_mem hi)
  rw [h1 j hj, h1 0 (by omega)]
theorem parL_get (k : Nat) (rs : List (List UInt8)) (m r : Nat) (h : r < m) : (parL k rs m)[r]? = some (shard k rs (k + r)) := by simp [parL, h]
theorem shard_w (k : Nat) (rs : List (List UInt8)) (V i : Nat) (hk : 0 < k) (hl : rs.length = k) (h : ∀ r ∈ rs, r.length = V) : shard k rs i = sumR V (rowC k i) rs k := by
  rw [shard, show (rs.getD 0 []).length = V from by
    rw [show rs.getD 0 [] = rs[0]'(by omega) from by simp [show 0 < rs.length by omega]]
    exact h _ (List.getElem_mem _)]
theorem shard_adds (a b : List UInt8) (V k i : Nat) (hk : 0 < k) : addL (shard k (cutL a V k) i) (shard k (cutL b V k) i) = shard k (bothL a b V k) i := by
  rw [shard_w k _ V i hk (cutL_length _ _ _) (cut_rows _ _ _), shard_w k _ V i hk (cutL_length _ _ _) (cut_rows _ _ _), shard_w k _ V i hk (bothL_length _ _ _ _) (bothL_rows _ _ _ _)]
  rw [sumR, sumR, sumR, addL_rowL]
  apply rowL_congr
  intro p hp
  rw [← xs_xor]
  apply xs_congr
  intro j hj
  rw [cut_getD a V k j hj, cut_getD b V k j hj, bothL_getD a b V k j hj, cutR, cutR, addL_rowL, rowL_getD _ _ _ hp, rowL_getD _ _ _ hp, rowL_getD _ _ _ hp, gm_xor]
theorem zero_rows (k : Nat) : ∀ r ∈ List.replicate k ([] : List UInt8), r.length = 0 := fun r hr => by rw [(List.mem_replicate.1 hr).2]; rfl
theorem gr_zero (w : World) (k : Nat) (hk : k ≤ maxLen) : Gr (w.alloc (.cells (madeCells #[.slice none 0 0] k) 30)) (some ⟨w.heap.size, 0, none⟩) k k (List.replicate k []) := by
  refine ⟨⟨List.replicate k (.slice none 0 0), ⟨by simp, Nat.le_refl _, hk, fun j u hu => ⟨w.heap.size, 0, rfl, ?_⟩⟩, fun i r hi => ?_⟩, by simp⟩
  · rw [cell_of_row _ _ _ _ _ _ (heap_alloc_new w _), Nat.zero_add]
    rw [← toList_madeCells_one] at hu
    simpa using hu
  · rw [List.getElem?_replicate] at hi
    split at hi
    · injection hi with hi
      subst hi
      exact ⟨none, 0, by rw [List.getElem?_replicate, if_pos (by assumption)]; rfl, Sl.nil _ 1 0 (by decide)⟩
    · cases hi

/-- append of one row that the call made, as a step of a region that draws. -/
theorem step_append_g1 {ops : Array Oper} {o : Oper} {a : Act} {w : World} {K : Act → World → Prop} {Q : Exit → Act → World → Prop} {E : Prop} {B n c g : Nat} {A : Option Addr} {rs : List (List UInt8)} (hgd : o.guard = none) (s x : Operand)
    (ho : o.op = .call { callee := .builtin .append, args := #[s, x], argTypes := #[22, 22] })
    (hv : a.eval s = .slice A n c) (h : Gg w B A n c rs) (hB : B ≤ w.heap.size) (A1 : Option Addr) (n1 c1 : Nat) (r : List UInt8) (hn1 : n1 = r.length) (hr : Sl w 1 A1 n1 c1 (cells r)) (hoth : Oth A A1 n1)
    (hg : w.heap[g]? = some (.cells #[.slice A1 n1 c1] 30 (0, 0))) (hx : a.eval x = .slice (some ⟨g, 0, none⟩) 1 1) (h40 : n + 1 ≤ 1048576)
    (hk : ∀ A' c' w', Gg w' B A' (n + 1) c' (rs ++ [r]) → Below B w w' → K (a.put o.dst (.slice A' (n + 1) c')) w') :
    if Region.wanted o (yielded ops a.tmps) = true then Oper.wp Tryz.prog o a w K Q else E := by
  have hw : Region.wanted o (yielded ops a.tmps) = true := by simp [Region.wanted, hgd]
  rw [if_pos hw]
  subst hn1
  have hs := Gr.one hg hr
  obtain ⟨i0, hi, hz0, hz1, hz2⟩ := info_parts info_bs
  obtain ⟨vs, hown, hrs⟩ := h.ex
  obtain ⟨vs2, hsl2, hrs2⟩ := hs.ex
  have hone := one_slice (rows_slice hsl2 hs.len hrs2)
  obtain ⟨A', c', w', hrun, h2, hfr, hA', hown'⟩ := run_append_fr (P := Tryz.prog) 22 22 o.type i0 (.slice none 0 0) 24 Tryz.underlying22 hi hz0 hz1 hz2 rfl (by decide) hown hB h.own (.slice (some ⟨g, 0, none⟩) 1 1) 1 vs2 (hsl2.src Tryz.underlying22 (by decide) hone) (by unfold maxLen; omega) (by omega)
  unfold Oper.wp execOp
  simp only [ho, resolve, invoke, builtin, Sem.run_bind, Sem.run_pure, Result.andThen_ok, List.map_toArray, List.map_cons, List.map_nil, hv, hx, hrun]
  refine hk A' c' w' ⟨⟨vs ++ vs2, h2, fun i r' hir => ?_⟩, by rw [List.length_append, h.len, hs.len], hown'⟩ (hfr.below hB (fun k ⟨o, e⟩ => (h.own k o e).1))
  have hvl := hown.sl.len
  rw [Nat.mul_one] at hvl
  have new : ∀ A'' c'', Sl w 1 A'' r'.length c'' (cells r') → Oth A A'' r'.length → Sl w' 1 A'' r'.length c'' (cells r') ∧ Oth A' A'' r'.length := by
    intro A'' c'' hsr hot
    refine ⟨hsr.oth hfr hot, fun b o o' hn e e' => ?_⟩
    rcases hA' with rfl | rfl
    · exact hot b o o' hn e e'
    · injection e' with e'
      injection e' with e' _
      have := hsr.lt (by decide) hn e
      omega
  rcases Nat.lt_or_ge i n with hlt | hge
  · rw [List.getElem?_append_left (by rw [h.len]; exact hlt)] at hir
    obtain ⟨A'', c'', e1, e2, e3⟩ := hrs i r' hir
    exact ⟨A'', c'', by rw [List.getElem?_append_left (by rw [hvl]; exact hlt)]; exact e1, new A'' c'' e2 e3⟩
  · rw [List.getElem?_append_right (by rw [h.len]; exact hge), h.len] at hir
    obtain ⟨A'', c'', e1, e2⟩ := hrs2 (i - n) r' hir
    refine ⟨A'', c'', by rw [List.getElem?_append_right (by rw [hvl]; exact hge), hvl]; exact e1, new A'' c'' e2 ?_⟩
    have hi2 : i - n = 0 := by
      rcases Nat.eq_zero_or_pos (i - n) with h' | h'
      · exact h'
      · rw [List.getElem?_eq_none (by simp; omega)] at hir
        cases hir
    rw [hi2] at hir e1
    injection hir with hir
    subst hir
    have hc0 := hsl2.at_ (k := 0) (by decide)
    obtain ⟨b, o', e, hcc⟩ := hc0
    injection e with e
    injection e with eb eo
    subst eb; subst eo
    have hcell := hcc 0 _ e1
    rw [cell_of_row _ _ _ _ _ _ hg] at hcell
    simp at hcell
    obtain ⟨rfl, _⟩ := hcell
    exact hoth
end Go.Proofs.YtabcmjbcnmedhaaGreat

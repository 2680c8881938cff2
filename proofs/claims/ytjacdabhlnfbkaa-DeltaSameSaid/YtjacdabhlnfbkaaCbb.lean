/-
  Contracts of the document's Shard and All of layer 5. No condition but bounds.
-/
import Derived.Test.YtjacdabhlnfbkaaCba
import Derived.Test.YtjacdabhlnfbkaaCaf
namespace Go.Proofs.Ytjacdabhlnfbkaa
open Go.RowKit Go.Proofs
set_option linter.unusedVariables false

theorem shard_at (k : Nat) (rs : List (List UInt8)) (i p : Nat) (hp : p < (rs.getD 0 []).length) : (shard k rs i)[p]? = some (xs k fun j => gm (facB k i j) ((rs.getD j []).getD p 0)) := by
  rw [shard, sumR, rowL_get _ _ _ hp]
  congr 1
  exact xs_congr k fun j hj => by rw [rowC_getD k i j hj]
theorem shard_length (k : Nat) (rs : List (List UInt8)) (i : Nat) : (shard k rs i).length = (rs.getD 0 []).length := sumR_length _ _ _ _

set_option maxRecDepth 20000 in
set_option maxHeartbeats 1600000 in
theorem rshard_any (k i : Nat) (A : Option Addr) (c : Nat) (rs : List (List UInt8)) (w : World) (hg : Gr w A k c rs) (h1 : 1 ≤ k) (hk : k ≤ 255) (hi : i ≤ 255) (hlv : levelB rs = true) (hW : (rs.getD 0 []).length ≤ 1048576) :
    Calls Try.prog 42 #[.slice A k c, .int .i64 (i : Int)] w (RetMine w.heap.size w (shard k rs i)) := by
  have hlim := hg.lim
  unfold maxLen at hlim
  have hlen := hg.len
  obtain ⟨W, hWd⟩ : ∃ W, W = (rs.getD 0 []).length := ⟨_, rfl⟩
  have hsl := shard_length k rs i
  rw [← hWd] at hW hsl
  have Hg := Lib.hid hg; clear hg
  have HWd := Lib.hid hWd; clear hWd
  have Hlen := Lib.hid hlen; clear hlen
  have Hsl := Lib.hid hsl; clear hsl
  go_enter Try.func42, Try.ntmps42
  go_wp2_with fail
  go_loopw [5, 6] (fun v p wr => ∃ (q : Nat) (A' : Option Addr) (c' : Nat), q ≤ W ∧ p = .int .i64 (q : Int) ∧ v = .slice A' q c' ∧ Grow wr w.heap.size A' q c' ((shard k rs i).take q) ∧ Below w.heap.size w wr) (fun _ p _ => W - (intOf p).toNat)
  case atStart => exact ⟨0, none, 0, by omega, rfl, rfl, Grow.nil _ _, Below.refl _ _⟩
  case round =>
    obtain ⟨wo, rfl⟩ : ∃ x, x = wr := ⟨_, rfl⟩
    obtain ⟨q, A', c', hq, rfl, rfl, ho, hb⟩ := hrel
    have Ho := Lib.hid ho; clear ho
    have Hb := Lib.hid hb
    have hszr := hb.size
    clear hb
    obtain ⟨b, o, rfl, hc⟩ := (Hg.out.later Hb.out).at_ (by omega)
    obtain ⟨A0, c0, hc0, hs0⟩ := hc 0 _ (Hg.out.get (by omega))
    rw [← HWd.out, Nat.add_zero] at hc0
    have Hc := Lib.hid hc; clear hc hs0
    have h0k : (0 : Int) < (k : Int) := by omega
    by_cases hlt : q < W
    · have hx := shard_at k rs i q (by rw [← HWd.out]; exact hlt)
      have Hx := Lib.hid hx; clear hx
      go_wp2_with fail
      go_loopw [7, 8] (fun x jv wi => ∃ (j : Nat) (y : UInt8), y = xs j (fun j => gm (facB k i j) ((rs.getD j []).getD q 0)) ∧ j ≤ k ∧ jv = .int .i64 (j : Int) ∧ x = .int .u8 (y.toNat : Int) ∧ ∃ n, wi = wo.drewN n) (fun _ jv _ => k - (intOf jv).toNat)
      case atStart => exact ⟨0, 0, rfl, by omega, rfl, rfl, 0, rfl⟩
      case round =>
        obtain ⟨j, y, hy, hj, rfl, rfl, hwi⟩ := hrel
        have hcw : ∀ p, wr.cell? p = wo.cell? p := by obtain ⟨k, rfl⟩ := hwi; exact fun p => rfl
        have hbi : Below wo.heap.size wo wr := by obtain ⟨k, rfl⟩ := hwi; exact below_drewN (Below.refl _ _) k
        have Hwi := Lib.hid hwi; clear hwi
        have Hcw := Lib.hid hcw; clear hcw
        have Hbi := Lib.hid hbi; clear hbi
        have Hy := Lib.hid hy; clear hy
        by_cases hjk : j < k
        · obtain ⟨Aj, cj, hcj, hsj⟩ := Hc.out j _ (Hg.out.get hjk)
          have hlj : (rs.getD j []).length = W := by rw [HWd.out]; exact levelB_at hlv (by rw [Hlen.out]; exact hjk)
          rw [hlj] at hcj hsj
          have hqj : q < (rs.getD j []).length := by rw [hlj]; exact hlt
          obtain ⟨bj, oj, rfl, hcc⟩ := hsj.at_ hlt
          have hcell := hcc q _ (cells_get (rs.getD j []) q hqj)
          rw [bv] at hcell
          obtain ⟨u, hu⟩ : ∃ u, u = (rs.getD j [])[q] := ⟨_, rfl⟩
          rw [← hu] at hcell
          have hcell' := (Hcw.out _).trans hcell
          have hcj' := (Hcw.out _).trans hcj
          have Hu := Lib.hid hu; clear hu
          have Hlj := Lib.hid hlj; clear hlj
          clear hcell hcj hcc hsj hc0
          have hji : (j : Int) < (k : Int) := by omega
          have hqi : (q : Int) < (W : Int) := by omega
          go_wp2_with fail
          go_quiet (first | (go_at_call 31; exact Calls.quiet_of_same (rfactor_any k i j hi hjk hk _)) | (go_at_call 52; exact Calls.quiet_of_same (rmul_any (facB k i j) u _)))
          go_wp2_with fail
          go_roundw
          case rel =>
            refine ⟨j + 1, y ^^^ gm (facB k i j) u, ?_, by omega, by go_num, by rw [xor_b], ?_⟩
            · rw [xs, ← Hy.out, Hu.out]
              simp [List.getD_eq_getElem?_getD, show q < (rs[j]?.getD []).length from by have := Hlj.out; rw [List.getD_eq_getElem?_getD] at this; omega]
            · obtain ⟨k, hk⟩ := Hwi.out
              exact ⟨k + nq, by rw [hk, World.drewN_drewN]⟩
          case measure => simp [intOf]; omega
        · obtain rfl : j = k := by omega
          have hbi := Hbi.out
          have hszi := hbi.size
          have Hob := Lib.hid (Ho.out.below hbi)
          have hwin : w.heap.size ≤ (wr.alloc (.cells #[.int .u8 (y.toNat : Int)] 5)).heap.size := by simp; omega
          have Hbi2 := Lib.hid (Hb.out.trans (hbi.mono hszr))
          clear hbi hc0
          go_wp2_with (at_builtin; refine wpList_append_bm (B := w.heap.size) rfl (.tmp 43) (.tmp 45) rfl rfl (Hob.out.below ((Below.refl _ _).alloc (Nat.le_refl _) _)).own hwin (some ⟨wr.heap.size, 0, none⟩) 1 1 [y] rfl (Sl.one _ _ _ _ rfl) ?pb ?pc)
          case pb => omega
          intro A2 c2 w2 ho2 hb2 hr2
          have G2 : Grow w2 w.heap.size A2 (q + 1) c2 ((shard j rs i).take (q + 1)) := by
            have hql : q < (shard j rs i).length := by rw [Hsl.out]; exact hlt
            have hxq : (shard j rs i)[q] = y := by
              have := Hx.out
              rw [List.getElem?_eq_getElem hql] at this
              injection this with this
              rw [this, Hy.out]
            rw [← List.take_append_getElem hql, hxq, ]
            exact ⟨by rw [cells_append]; exact ho2, fun _ => by rw [cells_append]; exact hr2⟩
          have HG := Lib.hid G2; clear G2 ho2 hr2
          have Hb2 := Lib.hid ((Hbi2.out.alloc (by omega) _).trans hb2); clear hb2
          go_wp2_with fail
          go_roundw
          case rel => exact ⟨q + 1, A2, c2, by omega, by go_num, rfl, HG.out, Hb2.out⟩
          case measure => simp [intOf]; omega
    · obtain rfl : q = W := by omega
      go_wp2_with fail
      go_ret
      have hfull : (shard k rs i).take q = shard k rs i := List.take_of_length_le (by rw [Hsl.out]; exact Nat.le_refl _)
      have hO := Ho.out
      rw [hfull] at hO
      exact ⟨A', _, c', rfl, hO.own.sl, Hb.out, fun hn => Mine.of_own (hO.row hn) hn⟩

/-- The first j shards. -/
def allL (k : Nat) (rs : List (List UInt8)) (j : Nat) : List (List UInt8) := (List.range j).map (shard k rs)
theorem allL_length (k : Nat) (rs : List (List UInt8)) (j : Nat) : (allL k rs j).length = j := by simp [allL]
theorem allL_next (k : Nat) (rs : List (List UInt8)) (j : Nat) : allL k rs j ++ [shard k rs j] = allL k rs (j + 1) := by simp [allL, List.range_succ]
theorem shard_data (k : Nat) (rs : List (List UInt8)) (i : Nat) (hi : i < k) (hl : rs.length = k) (hlv : levelB rs = true) : shard k rs i = rs.getD i [] := by
  apply List.ext_getElem?
  intro p
  rcases Nat.lt_or_ge p (rs.getD 0 []).length with hp | hp
  · rw [shard_at k rs i p hp, xs_one i k hi (fun j hj hne => by rw [facB, if_pos hi, if_neg (fun e => hne e.symm), zero_gm]), facB, if_pos hi, if_pos rfl, one_gm]
    rw [List.getD_eq_getElem?_getD (l := rs.getD i []), List.getElem?_eq_getElem (by rw [levelB_at hlv (by omega)]; exact hp), Option.getD_some]
  · rw [List.getElem?_eq_none (by rw [shard_length]; exact hp), List.getElem?_eq_none (by rw [levelB_at hlv (by omega)]; exact hp)]
theorem allL_eq (k m : Nat) (rs : List (List UInt8)) (hl : rs.length = k) (hlv : levelB rs = true) : allL k rs (k + m) = rs ++ parL k rs m := by
  apply List.ext_getElem?
  intro i
  rcases Nat.lt_or_ge i k with hi | hi
  · rw [List.getElem?_append_left (by omega)]
    rw [allL, List.getElem?_map, List.getElem?_range (by omega), Option.map_some, shard_data k rs i hi hl hlv]
    simp [show i < rs.length from by omega]
  · rw [List.getElem?_append_right (by omega), hl, allL, parL, List.getElem?_map, List.getElem?_map]
    rcases Nat.lt_or_ge i (k + m) with h2 | h2
    · rw [List.getElem?_range (by omega), List.getElem?_range (by omega), Option.map_some, Option.map_some, show k + (i - k) = i from by omega]
    · rw [List.getElem?_eq_none (by simpa using h2), List.getElem?_eq_none (by simp; omega), Option.map_none, Option.map_none]

end Go.Proofs.Ytjacdabhlnfbkaa

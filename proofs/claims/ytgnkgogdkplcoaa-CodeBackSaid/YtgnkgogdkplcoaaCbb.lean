/-
  Contracts of the document's Shard and All of layer 5. No condition but bounds.
-/
import Derived.Test.YtgnkgogdkplcoaaCba
import Derived.Test.YtgnkgogdkplcoaaCaf
namespace Go.Proofs.Ytgnkgogdkplcoaa
open Go.RowKit Go.Proofs
set_option linter.unusedVariables false

theorem shard_at (k : Nat) (rs : List (List UInt8)) (i p : Nat) (hp : p < (rs.getD 0 []).length) : (shard k rs i)[p]? = some (xs k fun j => gm (facB k i j) ((rs.getD j []).getD p 0)) := by
  rw [shard, sumR, rowL_get _ _ _ hp]
  congr 1
  exact xs_congr k fun j hj => by rw [rowC_getD k i j hj]
theorem shard_length (k : Nat) (rs : List (List UInt8)) (i : Nat) : (shard k rs i).length = (rs.getD 0 []).length := sumR_length _ _ _ _

set_option maxRecDepth 20000 in
set_option maxHeartbeats 1600000 in
theorem rshard_any (k i : Nat) (A : Option Addr) (c : Nat) (rs : List (List UInt8)) (w : World) (hg : Gr w A k c rs) (h1 : 1 ≤ k) (hk : k ≤ 255) (hi : i ≤ 255) (hlv : levelB rs = true) (hW : (rs.getD 0 []).length ≤ 1048576) :
    Calls Try.prog 41 #[.slice A k c, .int .i64 (i : Int)] w (RetMine w.heap.size w (shard k rs i)) := by
  have hlim := hg.lim
  unfold maxLen at hlim
  have hlen := hg.len
  obtain ⟨W, hWd⟩ : ∃ W, W = (rs.getD 0 []).length := ⟨_, rfl⟩
  have hsl := shard_length k rs i
  rw [← hWd] at hW hsl
  have Hg := Lib.hid hg; clear hg
  have HWd := Lib.hid hWd; clear hWd
  have Hlen := Lib.hid hlen; clear hlen
  have Hsl := Lib.hid hsl; clear hsl
  go_enter Try.func41, Try.ntmps41
  go_wp2_with fail
  go_loopw [5, 6] (fun v p wr => ∃ (q : Nat) (A' : Option Addr) (c' : Nat), q ≤ W ∧ p = .int .i64 (q : Int) ∧ v = .slice A' q c' ∧ Grow wr w.heap.size A' q c' ((shard k rs i).take q) ∧ Below w.heap.size w wr) (fun _ p _ => W - (intOf p).toNat)
  case atStart => exact ⟨0, none, 0, by omega, rfl, rfl, Grow.nil _ _, Below.refl _ _⟩
  case round =>
    obtain ⟨wo, rfl⟩ : ∃ x, x = wr := ⟨_, rfl⟩
    obtain ⟨q, A', c', hq, rfl, rfl, ho, hb⟩ := hrel
    have Ho := Lib.hid ho; clear ho
    have Hb := Lib.hid hb
    have hszr := hb.size
    clear hb
    obtain ⟨b, o, rfl, hc⟩ := (Hg.out.later Hb.out).at_ (by omega)
    obtain ⟨A0, c0, hc0, hs0⟩ := hc 0 _ (Hg.out.get (by omega))
    rw [← HWd.out, Nat.add_zero] at hc0
    have Hc := Lib.hid hc; clear hc hs0
    have h0k : (0 : Int) < (k : Int) := by omega
    by_cases hlt : q < W
    · have hx := shard_at k rs i q (by rw [← HWd.out]; exact hlt)
      have Hx := Lib.hid hx; clear hx
      go_wp2_with fail
      go_loopw [7, 8] (fun x jv wi => ∃ (j : Nat) (y : UInt8), y = xs j (fun j => gm (facB k i j) ((rs.getD j []).getD q 0)) ∧ j ≤ k ∧ jv = .int .i64 (j : Int) ∧ x = .int .u8 (y.toNat : Int) ∧ ∃ n, wi = wo.drewN n) (fun _ jv _ => k - (intOf jv).toNat)
      case atStart => exact ⟨0, 0, rfl, by omega, rfl, rfl, 0, rfl⟩
      case round =>
        obtain ⟨j, y, hy, hj, rfl, rfl, hwi⟩ := hrel
        have hcw : ∀ p, wr.cell? p = wo.cell? p := by obtain ⟨k, rfl⟩ := hwi; exact fun p => rfl
        have hbi : Below wo.heap.size wo wr := by obtain ⟨k, rfl⟩ := hwi; exact below_drewN (Below.refl _ _) k
        have Hwi := Lib.hid hwi; clear hwi
        have Hcw := Lib.hid hcw; clear hcw
        have Hbi := Lib.hid hbi; clear hbi
        have Hy := Lib.hid hy; clear hy
        by_cases hjk : j < k
        · obtain ⟨Aj, cj, hcj, hsj⟩ := Hc.out j _ (Hg.out.get hjk)
          have hlj : (rs.getD j []).length = W := by rw [HWd.out]; exact levelB_at hlv (by rw [Hlen.out]; exact hjk)
          rw [hlj] at hcj hsj
          have hqj : q < (rs.getD j []).length := by rw [hlj]; exact hlt
          obtain ⟨bj, oj, rfl, hcc⟩ := hsj.at_ hlt
          have hcell := hcc q _ (cells_get (rs.getD j []) q hqj)
          rw [bv] at hcell
          obtain ⟨u, hu⟩ : ∃ u, u = (rs.getD j [])[q] := ⟨_, rfl⟩
          rw [← hu] at hcell
          have hcell' := (Hcw.out _).trans hcell
          have hcj' := (Hcw.out _).trans hcj
          have Hu := Lib.hid hu; clear hu
          have Hlj := Lib.hid hlj; clear hlj
          clear hcell hcj hcc hsj hc0
          have hji : (j : Int) < (k : Int) := by omega
          have hqi : (q : Int) < (W : Int) := by omega
          go_wp2_with fail
          go_quiet (first | (go_at_call 35; exact Calls.quiet_of_same (rfactor_any k i j hi hjk hk _)) | (go_at_call 52; exact Calls.quiet_of_same (rmul_any (facB k i j) u _)))
          go_wp2_with fail
          go_roundw
          case rel =>
            refine ⟨j + 1, y ^^^ gm (facB k i j) u, ?_, by omega, by go_num, by rw [xor_b], ?_⟩
            · rw [xs, ← Hy.out, Hu.out]
              simp [List.getD_eq_getElem?_getD, show q < (rs[j]?.getD []).length from by have := Hlj.out; rw [List.getD_eq_getElem?_getD] at this; omega]
            · obtain ⟨k, hk⟩ := Hwi.out
              exact ⟨k + nq, by rw [hk, World.drewN_drewN]⟩
          case measure => simp [intOf]; omega
        · obtain rfl : j = k := by omega
          have hbi := Hbi.out
          have hszi := hbi.size
          have Hob := Lib.hid (Ho.out.below hbi)
          have hwin : w.heap.size ≤ (wr.alloc (.cells #[.int .u8 (y.toNat : Int)] 5)).heap.size := by simp; omega
          have Hbi2 := Lib.hid (Hb.out.trans (hbi.mono hszr))
          clear hbi hc0
          go_wp2_with (at_builtin; refine wpList_append_bm (B := w.heap.size) rfl (.tmp 43) (.tmp 45) rfl rfl (Hob.out.below ((Below.refl _ _).alloc (Nat.le_refl _) _)).own hwin (some ⟨wr.heap.size, 0, none⟩) 1 1 [y] rfl (Sl.one _ _ _ _ rfl) ?pb ?pc)
          case pb => omega
          intro A2 c2 w2 ho2 hb2 hr2
          have G2 : Grow w2 w.heap.size A2 (q + 1) c2 ((shard j rs i).take (q + 1)) := by
            have hql : q < (shard j rs i).length := by rw [Hsl.out]; exact hlt
            have hxq : (shard j rs i)[q] = y := by
              have := Hx.out
              rw [List.getElem?_eq_getElem hql] at this
              injection this with this
              rw [this, Hy.out]
            rw [← List.take_append_getElem hql, hxq, ]
            exact ⟨by rw [cells_append]; exact ho2, fun _ => by rw [cells_append]; exact hr2⟩
          have HG := Lib.hid G2; clear G2 ho2 hr2
          have Hb2 := Lib.hid ((Hbi2.out.alloc (by omega) _).trans hb2); clear hb2
          go_wp2_with fail
          go_roundw
          case rel => exact ⟨q + 1, A2, c2, by omega, by go_num, rfl, HG.out, Hb2.out⟩
          case measure => simp [intOf]; omega
    · obtain rfl : q = W := by omega
      go_wp2_with fail
      go_ret
      have hfull : (shard k rs i).take q = shard k rs i := List.take_of_length_le (by rw [Hsl.out]; exact Nat.le_refl _)
      have hO := Ho.out
      rw [hfull] at hO
      exact ⟨A', _, c', rfl, hO.own.sl, Hb.out, fun hn => Mine.of_own (hO.row hn) hn⟩

/-- The first j shards. -/
def allL (k : Nat) (rs : List (List UInt8)) (j : Nat) : List (List UInt8) := (List.range j).map (shard k rs)
theorem allL_length (k : Nat) (rs : List (List UInt8)) (j : Nat) : (allL k rs j).length = j := by simp [allL]
theorem allL_next (k : Nat) (rs : List (List UInt8)) (j : Nat) : allL k rs j ++ [shard k rs j] = allL k rs (j + 1) := by simp [allL, List.range_succ]
theorem shard_data (k : Nat) (rs : List (List UInt8)) (i : Nat) (hi : i < k) (hl : rs.length = k) (hlv : levelB rs = true) : shard k rs i = rs.getD i [] := by
  apply List.ext_getElem?
  intro p
  rcases Nat.lt_or_ge p (rs.getD 0 []).length with hp | hp
  · rw [shard_at k rs i p hp, xs_one i k hi (fun j hj hne => by rw [facB, if_pos hi, if_neg (fun e => hne e.symm), zero_gm]), facB, if_pos hi, if_pos rfl, one_gm]
    rw [List.getD_eq_getElem?_getD (l := rs.getD i []), List.getElem?_eq_getElem (by rw [levelB_at hlv (by omega)]; exact hp), Option.getD_some]
  · rw [List.getElem?_eq_none (by rw [shard_length]; exact hp), List.getElem?_eq_none (by rw [levelB_at hlv (by omega)]; exact hp)]
theorem allL_eq (k m : Nat) (rs : List (List UInt8)) (hl : rs.length = k) (hlv : levelB rs = true) : allL k rs (k + m) = rs ++ parL k rs m := by
  apply List.ext_getElem?
  intro i
  rcases Nat.lt_or_ge i k with hi | hi
  · rw [List.getElem?_append_left (by omega)]
    rw [allL, List.getElem?_map, List.getElem?_range (by omega), Option.map_some, shard_data k rs i hi hl hlv]
    simp [show i < rs.length from by omega]
  · rw [List.getElem?_append_right (by omega), hl, allL, parL, List.getElem?_map, List.getElem?_map]
    rcases Nat.lt_or_ge i (k + m) with h2 | h2
    · rw [List.getElem?_range (by omega), List.getElem?_range (by omega), Option.map_some, Option.map_some, show k + (i - k) = i from by omega]
    · rw [List.getElem?_eq_none (by simpa using h2), List.getElem?_eq_none (by simp; omega), Option.map_none, Option.map_none]

set_option maxRecDepth 20000 in
set_option maxHeartbeats 1600000 in
theorem rall_any (k m : Nat) (A : Option Addr) (n c : Nat) (rs : List (List UInt8)) (w : World) (hg : Gr w A n c rs) (h1 : 1 ≤ k) (h3 : k + m ≤ 255) (hW : ∀ r ∈ rs, r.length ≤ 1048576) :
    Calls Try.prog 21 #[.int .i64 (k : Int), .int .i64 (m : Int), .slice A n c] w fun e w' => Below w.heap.size w w' ∧
      (evenB rs (k : Int) = false ∧ e = .returned (.tuple #[.slice none 0 0, .int .i64 2]) ∨ evenB rs (k : Int) = true ∧ ∃ A c, e = .returned (.tuple #[.slice A (k + m) c, .int .i64 0]) ∧ Gr w' A (k + m) c (allL k rs (k + m))) := by
  have he := reven_any A n c rs (k : Int) w hg
  have hlim := hg.lim
  unfold maxLen at hlim
  by_cases hev : evenB rs (k : Int) = true
  · rw [hev] at he
    have hnk : n = k := by
      rw [evenB, Bool.and_eq_true] at hev
      have := of_decide_eq_true hev.1
      have := hg.len
      omega
    subst hnk
    have hlv : levelB rs = true := by
      rw [evenB, Bool.and_eq_true] at hev
      exact hev.2
    have hW0 : (rs.getD 0 []).length ≤ 1048576 := hW _ (List.mem_of_getElem? (hg.get (i := 0) (by omega)))
    have Hev := Lib.hid hev; clear hev
    have Hg := Lib.hid hg; clear hg
    go_enter Try.func21, Try.ntmps21
    go_wp2_with fail
    refine he.mono ?_; clear he; rintro e w1 ⟨rfl, hb1⟩
    have Hb1 := Lib.hid hb1
    have hsz1 := hb1.size
    clear hb1
    go_wp2_with fail
    go_loopw [8, 9] (fun v i wr => ∃ (j : Nat) (A' : Option Addr) (c' : Nat), j ≤ n + m ∧ i = .int .i64 (j : Int) ∧ v = .slice A' j c' ∧ Gg wr w1.heap.size A' j c' (allL n rs j) ∧ Below w1.heap.size w1 wr) (fun _ i _ => n + m - (intOf i).toNat)
    case atStart => exact ⟨0, none, 0, by omega, rfl, rfl, Gg.nil _ _, Below.refl _ _⟩
    case round =>
      obtain ⟨j, A', c', hj, rfl, rfl, hG, hb⟩ := hrel
      have HG := Lib.hid hG; clear hG
      have Hb := Lib.hid hb
      have hszr := hb.size
      clear hb
      by_cases hlt : j < n + m
      · have hlt' : (j : Int) < (n : Int) + (m : Int) := by omega
        have hcl := rshard_any n j A c rs wr (Hg.out.later (Hb1.out.trans (Hb.out.mono hsz1))) h1 (by omega) (by omega) hlv hW0
        go_wp2_with fail
        refine hcl.mono ?_; clear hcl; rintro e w3 ⟨Ac, nc, cc, rfl, hsc, hb3, hmc⟩
        have hnc : nc = (shard n rs j).length := by
          have := hsc.len
          rw [cells_length] at this
          omega
        have hoth : Oth A' Ac nc := fun b1 o1 o2 hn e1 e2 => by
          obtain ⟨g', cur, e', hg', _⟩ := hmc hn
          rw [e1] at e'; injection e' with e'; injection e' with e' _
          have := (HG.out.own _ _ e2).2
          omega
        have Hsc := Lib.hid hsc
        have Hoth := Lib.hid hoth
        have Hnc := Lib.hid hnc
        have hsz3 := hb3.size
        have HG3 := Lib.hid (HG.out.later hb3)
        have Hb3 := Lib.hid (Hb.out.trans (hb3.mono hszr))
        clear hsc hmc hoth hnc hb3
        go_wp2_with (at_builtin; refine wpList_append_g1 (B := w1.heap.size) rfl (.tmp 21) (.tmp 25) rfl rfl HG3.out ?pa Ac nc cc (shard n rs j) Hnc.out Hsc.out Hoth.out rfl ?pb ?pc)
        case pa => omega
        case pb => omega
        intro A4 c4 w4 hG4 hb4 hf4
        rw [allL_next] at hG4
        have HG4 := Lib.hid hG4; clear hG4
        have Hb4 := Lib.hid (Hb3.out.trans hb4); clear hb4 hf4
        go_wp2_with fail
        go_roundw
        case rel => exact ⟨j + 1, A4, c4, by omega, by go_num, rfl, HG4.out, Hb4.out⟩
        case measure => simp [intOf]; omega
      · obtain rfl : j = n + m := by omega
        have hge : ¬ (((n + m : Nat) : Int) < (n : Int) + (m : Int)) := by omega
        go_wp2_with fail
        go_ret2
        exact ⟨Hb1.out.trans (Hb.out.mono hsz1), .inr ⟨Hev.out, A', c', rfl, HG.out.gr⟩⟩
  · have hev' : evenB rs (k : Int) = false := by simpa using hev
    rw [hev'] at he
    have Hev := Lib.hid hev'; clear hev hev'
    clear hg
    go_enter Try.func21, Try.ntmps21
    go_wp2_with fail
    refine he.mono ?_; clear he; rintro e w1 ⟨rfl, hb1⟩
    go_wp2_with fail
    go_ret2
    exact ⟨hb1, .inl ⟨Hev.out, rfl⟩⟩
end Go.Proofs.Ytgnkgogdkplcoaa

/-
  What the program makes anew is what the document makes; the contract of the document's All of layer 6. Condition: the rows are k of data and m of parity; bounds.
-/
import Derived.Test.YtgoomiimlfdcmaaGreatDki
import Derived.Test.YtgoomiimlfdcmaaGreatCbb
namespace Go.Proofs.YtgoomiimlfdcmaaGreat
open Go.RowKit Go.Proofs
set_option linter.unusedVariables false

theorem dataL_length (k W : Nat) (D : Mx) : (dataL k W D).length = k := by simp [dataL]
theorem dataL_getD (k W : Nat) (D : Mx) (j : Nat) (h : j < k) : (dataL k W D).getD j [] = rowL W (D j) := by simp [dataL, h]
theorem dataL_level (k W : Nat) (D : Mx) : levelB (dataL k W D) = true := decide_eq_true fun j hj => by
  rw [dataL_length] at hj
  rw [dataL_getD _ _ _ _ hj, dataL_getD _ _ _ _ (by omega), rowL_length, rowL_length]
theorem shard_dataL (k W : Nat) (D : Mx) (h1 : 1 ≤ k) (x : Nat) : shard k (dataL k W D) x = rowL W fun p => xs k fun j => gm (facB k x j) (D j p) := by
  rw [shard, dataL_getD _ _ _ _ (by omega), rowL_length, sumR]
  apply rowL_congr
  intro p hp
  apply xs_congr
  intro j hj
  rw [rowC_getD _ _ _ hj, dataL_getD _ _ _ _ hj, rowL_getD _ _ _ hp]
theorem makeL_shard (k : Nat) (X : Mx) (rs : List (List UInt8)) (T : List Nat) (W x : Nat) (h1 : 1 ≤ k) (hT : T.length = k) : makeL k X rs T W x = shard k (dataL k W (solD k X rs T)) x := by
  rw [shard_dataL _ _ _ h1, makeL, sumR]
  apply rowL_congr
  intro p hp
  rw [mul_sol]
  apply xs_congr
  intro j hj
  rw [planL, rowL_getD _ _ _ hj, pick_getD _ _ _ (by omega)]
/-- Rows that are there stand in the list. -/
theorem there_at (rs : List (List UInt8)) {n i : Nat} (hi : i < n) (hne : (rs.getD i []).length ≠ 0) : ∃ a, a < (thereL rs n).length ∧ (thereL rs n).getD a 0 = i := by
  have hm : i ∈ thereL rs n := by
    unfold thereL
    exact List.mem_filter.2 ⟨List.mem_range.2 hi, decide_eq_true (by omega)⟩
  obtain ⟨a, ha, e⟩ := List.mem_iff_getElem.1 hm
  exact ⟨a, ha, by simp [ha, e]⟩
theorem thereL_ge (rs : List (List UInt8)) (n : Nat) : ∀ a, a < (thereL rs n).length → a ≤ (thereL rs n).getD a 0
  | 0, _ => Nat.zero_le _
  | a + 1, h => by
    have h1 := thereL_ge rs n a (by omega)
    have h2 := thereL_mono rs n (show a < a + 1 by omega) h
    omega
/-- Data rows that are there are the data. -/
theorem there_data {k n W i : Nat} {X : Mx} {rs : List (List UInt8)} (h1 : 1 ≤ k) (hX : Alike k k (mm k X (facM k ((thereL rs n).take k))) one) (hk : k ≤ (thereL rs n).length) (hkn : k ≤ n)
    (hw : ∀ a, a < k → (rs.getD (((thereL rs n).take k).getD a 0) []).length = W) (hi : i < k) (hne : (rs.getD i []).length ≠ 0) : rs.getD i [] = rowL W (solD k X rs ((thereL rs n).take k) i) := by
  obtain ⟨a, ha, hai⟩ := there_at rs (show i < n by omega) hne
  have hak : a < k := by
    have := thereL_ge rs n a ha
    omega
  have ht : ((thereL rs n).take k).getD a 0 = i := by rw [take_getD hak, hai]
  have hl := hw a hak
  rw [ht] at hl
  have hs := sol_of (W := W) (rs := rs) hX
  apply List.ext_getElem
  · rw [hl, rowL_length]
  · intro p h2 h3
    have hp : p < W := by omega
    have e := hs a hak p hp
    have e1 : eqM k rs ((thereL rs n).take k) a (k + p) = (rs.getD i [])[p] := by
      rw [eqM, if_neg (by omega), ht, show k + p - k = p from by omega, List.getD_eq_getElem?_getD, List.getElem?_eq_getElem h2, Option.getD_some]
    have e2 : (xs k fun b => gm (eqM k rs ((thereL rs n).take k) a b) (solD k X rs ((thereL rs n).take k) b p)) = solD k X rs ((thereL rs n).take k) i p := by
      rw [xs_one i k hi (fun b hb hbi => by rw [eqM, if_pos hb, ht, facB, if_pos hi, if_neg (fun e => hbi e.symm), zero_gm]), eqM, if_pos hi, ht, facB, if_pos hi, if_pos rfl, one_gm]
    rw [← e1, ← e, e2]
    have := rowL_get W (solD k X rs ((thereL rs n).take k) i) p hp
    rw [List.getElem?_eq_getElem h3] at this
    injection this with this
    exact this.symm
/-- What the program's Data answers is the document's. -/
theorem data_same {k n W : Nat} {X : Mx} {rs : List (List UInt8)} (h1 : 1 ≤ k) (hX : Alike k k (mm k X (facM k ((thereL rs n).take k))) one) (hk : k ≤ (thereL rs n).length) (hl : rs.length = n) (hkn : k ≤ n)
    (hw : ∀ a, a < k → (rs.getD (((thereL rs n).take k).getD a 0) []).length = W) : fillL (rs.take k) (makeL k X rs ((thereL rs n).take k) W) k = dataL k W (solD k X rs ((thereL rs n).take k)) := by
  have hrl : (rs.take k).length = k := by rw [List.length_take]; omega
  have hT : ((thereL rs n).take k).length = k := by rw [List.length_take]; omega
  apply List.ext_getElem?
  intro i
  by_cases hi : i < k
  · rw [fillL_get _ _ _ _ (by omega)]
    have e1 : (rs.take k).getD i [] = rs.getD i [] := by rw [List.getD_eq_getElem?_getD, List.getElem?_take, if_pos hi, List.getD_eq_getElem?_getD]
    have e2 : (dataL k W (solD k X rs ((thereL rs n).take k)))[i]? = some (rowL W (solD k X rs ((thereL rs n).take k) i)) := by simp [dataL, hi]
    rw [e1, e2]
    by_cases hz : (rs.getD i []).length = 0
    · rw [if_pos ⟨hi, hz⟩, makeL_shard _ _ _ _ _ _ h1 hT, shard_data k _ i hi (dataL_length _ _ _) (dataL_level _ _ _), dataL_getD _ _ _ _ hi]
    · rw [if_neg (fun h => hz h.2), there_data h1 hX hk hkn hw hi hz]
  · rw [List.getElem?_eq_none (by rw [fillL_length]; omega), List.getElem?_eq_none (by rw [dataL_length]; omega)]
theorem fillL_congr (rs : List (List UInt8)) (f g : Nat → List UInt8) (j : Nat) (h : ∀ i, i < j → f i = g i) : fillL rs f j = fillL rs g j := by
  unfold fillL
  apply List.map_congr_left
  intro i _
  by_cases hi : i < j ∧ (rs.getD i []).length = 0
  · rw [if_pos hi, if_pos hi, h i hi.1]
  · rw [if_neg hi, if_neg hi]
theorem fillL_snoc (rs : List (List UInt8)) (f : Nat → List UInt8) (n j : Nat) (hj : j < rs.length) (hn : rs.length ≤ n) : (fillL rs f n).take j ++ [if (rs.getD j []).length = 0 then f j else rs.getD j []] = (fillL rs f n).take (j + 1) := by
  have hl : j < (fillL rs f n).length := by rw [fillL_length]; exact hj
  rw [← List.take_append_getElem hl]
  congr 2
  have := fillL_get rs f n j hj
  rw [List.getElem?_eq_getElem hl] at this
  injection this with this
  rw [this]
  by_cases hz : (rs.getD j []).length = 0
  · rw [if_pos hz, if_pos ⟨by omega, hz⟩]
  · rw [if_neg hz, if_neg (fun h => hz h.2)]

set_option maxRecDepth 20000 in
set_option maxHeartbeats 1600000 in
theorem rall6_no (k m : Nat) (h3 : k + m ≤ 255) (A : Option Addr) (n c : Nat) (rs : List (List UInt8)) (w : World) (hg : Gr w A n c rs) (hn : n ≤ 1048576) (hr : rightX k m rs ≠ 0) :
    Calls Tryz.prog 16 #[.int .i64 (k : Int), .int .i64 (m : Int), .slice A n c] w fun e w' => e = .returned (.tuple #[.slice none 0 0, .int .i64 (rightX k m rs)]) ∧ Below w.heap.size w w' := by
  have hh := rdata_no k m h3 A n c rs w hg hn hr
  obtain ⟨x, hx⟩ : ∃ x, x = rightX k m rs := ⟨_, rfl⟩
  rw [← hx] at hh hr ⊢
  have hb : (x != 0) = true := by simpa using hr
  have Hb := Lib.hid hb
  clear hx hg
  go_enter Tryz.func16, Tryz.ntmps16
  go_wp2_with fail
  refine hh.mono ?_; clear hh; rintro e w1 ⟨rfl, hb1⟩
  go_wp2_with fail
  go_ret2
  exact ⟨rfl, hb1⟩

set_option maxRecDepth 20000 in
set_option maxHeartbeats 1600000 in
theorem rall6_yes (k m : Nat) (h1 : 1 ≤ k) (h3 : k + m ≤ 255) (A : Option Addr) (n c : Nat) (rs : List (List UInt8)) (X : Mx) (w : World) (hg : Gr w A n c rs) (hn : n ≤ 1048576) (hW : ∀ r ∈ rs, r.length ≤ 1048576) (hr : rightX k m rs = 0) (hX : Alike k k (mm k X (facM k ((thereL rs n).take k))) one) :
    Calls Tryz.prog 16 #[.int .i64 (k : Int), .int .i64 (m : Int), .slice A n c] w fun e w' => (∃ A' c', e = .returned (.tuple #[.slice A' (k + m) c', .int .i64 0]) ∧ Gr w' A' (k + m) c' (fillL rs (shard k (dataL k (rs.getD ((thereL rs n).getD 0 0) []).length (solD k X rs ((thereL rs n).take k)))) (k + m))) ∧ Below w.heap.size w w' := by
  have hlen := hg.len
  obtain ⟨hnk, _, hkq⟩ := rightX_ok hr
  rw [hlen] at hnk hkq
  have hh := rdata_yes k m h1 h3 A n c rs X w hg hn hW hr hX
  obtain ⟨W, hWd⟩ : ∃ W, W = (rs.getD ((thereL rs n).getD 0 0) []).length := ⟨_, rfl⟩
  have hW1 : W ≤ 1048576 := by
    rw [hWd]
    exact hW _ (List.mem_of_getElem? (hg.get (thereL_lt (by omega))))
  rw [← hWd] at hh ⊢
  obtain ⟨ds, hds⟩ : ∃ ds, ds = dataL k W (solD k X rs ((thereL rs n).take k)) := ⟨_, rfl⟩
  have hlv : levelB ds = true := by rw [hds]; exact dataL_level _ _ _
  have hd0 : (ds.getD 0 []).length ≤ 1048576 := by rw [hds, dataL_getD _ _ _ _ (by omega), rowL_length]; exact hW1
  rw [← hds] at hh ⊢
  have Hg := Lib.hid hg
  have HW := Lib.hid hW
  have Hlen := Lib.hid hlen
  have Hnk := Lib.hid hnk
  have Hlv := Lib.hid hlv
  have Hd0 := Lib.hid hd0
  clear hg hW hlen hnk hlv hd0 hWd hds hX hr hkq
  go_enter Tryz.func16, Tryz.ntmps16
  go_wp2_with fail
  refine hh.mono ?_; clear hh; rintro e w1 ⟨⟨g, rfl, hG⟩, hb1⟩
  have HG := Lib.hid hG
  have Hb1 := Lib.hid hb1
  have hz1 := hb1.size
  clear hG hb1
  go_wp2_with fail
  go_loopw [10, 11] (fun v i wr => ∃ (j : Nat) (A' : Option Addr) (c' : Nat), j ≤ k + m ∧ i = .int .i64 (j : Int) ∧ v = .slice A' j c' ∧ Gg wr w1.heap.size A' j c' ((fillL rs (shard k ds) (k + m)).take j) ∧ Below w1.heap.size w1 wr) (fun _ i _ => k + m - (intOf i).toNat)
  case atStart => exact ⟨0, none, 0, by omega, rfl, rfl, by simpa using Gg.nil w1 w1.heap.size, Below.refl _ _⟩
  case round =>
    obtain ⟨wl, rfl⟩ : ∃ x, x = wr := ⟨_, rfl⟩
    obtain ⟨j, A', c', hj, rfl, rfl, hGg, hb⟩ := hrel
    have Gq := Lib.hid hGg
    have Hb := Lib.hid hb
    have hszl := hb.size
    clear hGg hb
    by_cases hlt : j < k + m
    · have hjn : j < n := by rw [Hnk.out]; exact hlt
      obtain ⟨b, o, rfl, hcr⟩ := (Hg.out.later Hb1.out).at_ (by omega)
      obtain ⟨Ar, cr, q0, sr⟩ := hcr j _ (Hg.out.get hjn)
      have hoth : Oth A' Ar (rs.getD j []).length := fun b1 o1 o2 hn e e' => by
        have h5 := sr.lt (by decide) hn e
        have := (Gq.out.own _ _ e').1
        omega
      have hnext := fillL_snoc rs (shard k ds) (k + m) j (by rw [Hlen.out]; exact hjn) (by rw [Hlen.out, Hnk.out]; exact Nat.le_refl _)
      have q1 := (Hb.out.cell (World.block_lt_of_cell? w1 _ q0)).trans q0
      have sr1 := sr.below Hb.out (Nat.le_refl _)
      obtain ⟨r, hrd⟩ : ∃ r, r = rs.getD j [] := ⟨_, rfl⟩
      rw [← hrd] at q1 sr1 hoth hnext
      obtain ⟨L, hL⟩ : ∃ L, L = r.length := ⟨_, rfl⟩
      have hlim := sr1.lim
      unfold maxLen at hlim
      have Sr := Lib.hid (show Sl wl 1 Ar L cr (cells r) by rw [hL]; exact sr1)
      have Ho := Lib.hid (show Oth A' Ar L by rw [hL]; exact hoth)
      have HL := Lib.hid hL
      rw [← hL] at q1 hnext hlim
      have hji : (j : Int) < (k : Int) + (m : Int) := by omega
      have hjni : (j : Int) < (n : Int) := by omega
      clear hcr q0 sr sr1 hoth hrd hL
      by_cases hz : L = 0
      · rw [if_pos hz] at hnext
        have Hnext := Lib.hid hnext
        have hpi : ¬ ((0 : Int) < (L : Int)) := by omega
        have hh := rshard_any k j (some ⟨g, 0, none⟩) k ds wl (HG.out.later Hb.out) h1 (by omega) (by omega) Hlv.out Hd0.out
        clear hnext hz
        go_wp2_with fail
        refine hh.mono ?_; clear hh; rintro e w3 ⟨Ac, nc, cc, rfl, hsc, hb3, hmc⟩
        have hnc : nc = (shard k ds j).length := by
          have := hsc.len
          rw [cells_length] at this
          omega
        have hothc : Oth A' Ac nc := fun b1 o1 o2 hn e e' => by
          have h5 := mine_new hmc hn e
          have := (Gq.out.own _ _ e').2
          omega
        have Hsc := Lib.hid hsc
        have Hnc := Lib.hid hnc
        have Hoc := Lib.hid hothc
        have G3 := Lib.hid (Gq.out.later hb3)
        have Hb3 := Lib.hid (Hb.out.trans (hb3.mono hszl))
        have hsz3 := Hb3.out.size
        clear hsc hnc hothc hb3 hmc q1
        go_wp2_with (at_builtin; refine wpList_append_g1 (B := w1.heap.size) rfl (.tmp 42) (.tmp 46) rfl rfl G3.out ?pa Ac nc cc (shard k ds j) Hnc.out Hsc.out Hoc.out rfl ?pb ?pc)
        case pa => omega
        case pb => omega
        intro A4 c4 w4 hG4 hb4 hf4
        rw [Hnext.out] at hG4
        have HG4 := Lib.hid hG4
        have Hb4 := Lib.hid (Hb3.out.trans hb4)
        clear hG4 hb4 hf4
        go_wp2_with fail
        go_roundw
        case rel => exact ⟨j + 1, A4, c4, by omega, by go_num, rfl, HG4.out, Hb4.out⟩
        case measure => simp [intOf]; omega
      · rw [if_neg hz] at hnext
        have Hnext := Lib.hid hnext
        have hpi : (0 : Int) < (L : Int) := by omega
        clear hnext hz
        go_wp2_with (at_builtin; refine wpList_append_g1 (B := w1.heap.size) rfl (.tmp 35) (.tmp 40) rfl rfl Gq.out ?qa Ar L cr r HL.out Sr.out Ho.out rfl ?qb ?qc)
        case qa => omega
        case qb => omega
        intro A4 c4 w4 hG4 hb4 hf4
        rw [Hnext.out] at hG4
        have HG4 := Lib.hid hG4
        have Hb4 := Lib.hid (Hb.out.trans hb4)
        clear hG4 hb4 hf4
        go_wp2_with fail
        go_roundw
        case rel => exact ⟨j + 1, A4, c4, by omega, by go_num, rfl, HG4.out, Hb4.out⟩
        case measure => simp [intOf]; omega
    · have hje : j = k + m := by omega
      have hfin := Gq.out.gr
      rw [List.take_of_length_le (by rw [fillL_length, Hlen.out, Hnk.out]; omega)] at hfin
      have Hfin := Lib.hid hfin
      have Hje := Lib.hid hje
      have hji : ¬ ((j : Int) < (k : Int) + (m : Int)) := by omega
      clear hfin hje
      go_wp2_with fail
      go_ret2
      have := Hje.out
      subst this
      exact ⟨⟨A', c', rfl, Hfin.out⟩, Hb1.out.trans (Hb.out.mono hz1)⟩
end Go.Proofs.YtgoomiimlfdcmaaGreat

/-
  Arguments of layer 14's types Act and []Act as they are read; layer 14's few, in and without. No condition.
-/
import Derived.Test.YtgkdpljlgdlekaaDoorOpi
import Derived.Test.YtgkdpljlgdlekaaDoorEfb
import Derived.Deep.Slices
import Derived.Deep.Fields
namespace Go.Proofs.YtgkdpljlgdlekaaDoor
open Go.ChangeShapes Go.WideShapes Go.ChangeAt Go.RowKit Go.Proofs Go.Deep
set_option linter.unusedVariables false

/-- An act: what the law's Act reads as; LA, lc: where its list lies. -/
structure At14 where
  kind : Int
  n : Int
  L : List Int
  LA : Option Addr
  lc : Nat
  e : Nat
instance : Inhabited At14 := ⟨⟨0, 0, [], none, 0, 0⟩⟩
namespace At14
def vals (a : At14) : List Value := [.int .i64 a.kind, .int .i64 a.n, .slice a.LA a.L.length a.lc, .int .u64 (a.e : Int)]
structure Ok (w : World) (a : At14) : Prop where
  n1 : -9223372036854775808 ≤ a.n
  n2 : a.n < 9223372036854775808
  L : Sl w 1 a.LA a.L.length a.lc (icells a.L)
  z : ∀ z ∈ a.L, -9223372036854775808 ≤ z ∧ z < 9223372036854775808
end At14
theorem At14.Ok.below {w w' : World} {a : At14} (h : a.Ok w) (hb : Below w.heap.size w w') : a.Ok w' := ⟨h.n1, h.n2, h.L.below hb (Nat.le_refl _), h.z⟩
/-- The slice reads as acts. -/
structure Ats14 (w : World) (A : Option Addr) (n c : Nat) (its : List At14) : Prop where
  len : its.length = n
  cap : n ≤ c
  top : c ≤ maxLen
  cell : ∀ (i : Nat) (x : At14), its[i]? = some x → ∃ b o, A = some ⟨b, o, none⟩ ∧ (∀ (j : Nat) u, x.vals[j]? = some u → w.cell? ⟨b, o + i * 4 + j, none⟩ = some u) ∧ x.Ok w
theorem Ats14.below {w w' : World} {A : Option Addr} {n c : Nat} {its : List At14} (h : Ats14 w A n c its) (hb : Below w.heap.size w w') : Ats14 w' A n c its :=
  ⟨h.len, h.cap, h.top, fun i x hx => by
    obtain ⟨b, o, e, h1, h2⟩ := h.cell i x hx
    exact ⟨b, o, e, fun j u hu => (hb.cell (p := ⟨b, o + i * 4 + j, none⟩) (World.block_lt_of_cell? w _ (h1 j u hu))).trans (h1 j u hu), h2.below hb⟩⟩
theorem cells_act14 : Tryd.prog.cellsOf 30 = 4 := by kernel_rfl
theorem cells_int14 : Tryd.prog.cellsOf 3 = 1 := by kernel_rfl
theorem cells_ints14 : Tryd.prog.cellsOf 27 = 1 := by kernel_rfl
theorem cells_u64b : Tryd.prog.cellsOf 28 = 1 := by kernel_rfl
section
variable {H : Type} {enc : TypeId × Value → H} {w : World} {base : Nat} {held : Bool} {fuel : Nat}
set_option maxRecDepth 100000
theorem cell_ints14 {m : Nat} {c0 : Value} {y : DataW H × List MemPlace} (h : DataW.trod enc Tryd.prog w base (fun _ => true) held m 27 [c0] = some y) :
    ∃ A cp, ∃ l : List Int, c0 = .slice A l.length cp ∧ Sl w 1 A l.length cp (icells l) ∧ ∀ z ∈ l, -9223372036854775808 ≤ z ∧ z < 9223372036854775808 := by
  rcases open_ints Tryd.underlying27 Tryd.underlying3 (by kernel_rfl) h with ⟨hcs, _⟩ | ⟨x, l, c, zs, hcs, _, hl, hm, hz, _, hcell, hwz⟩
  · injection hcs with hcs
    exact ⟨none, 0, [], hcs, Sl.nil w 1 0 (by decide), fun z hz => by cases hz⟩
  · injection hcs with hcs
    obtain ⟨k, hk, hs, hb⟩ := IsRow.sli (.inr ⟨_, rfl, hl, hm, by simpa using hz, hcell, hwz⟩)
    subst hk
    exact ⟨_, _, k, hcs, hs, hb⟩
/-- One act, out of its four cells. -/
theorem act14_of {cs : List Value} {y : DataW H × List MemPlace}
    (h : DataW.trod enc Tryd.prog w base (fun _ => true) held fuel 30 cs = some y) : ∃ x : At14, cs = x.vals ∧ x.Ok w := by
  obtain ⟨xs, m, _, _, hl, hxl, hf⟩ := DataW.trod_struct Tryd.underlying30 h
  rw [cells_act14] at hl
  match cs, hl with
  | [c0, c1, c2, c3], _ =>
    match xs, hxl with
    | [y0, y1, y2, y3], _ =>
      have h0 : DataW.trod enc Tryd.prog w base (fun _ => true) held m 3 (([c0, c1, c2, c3].drop 0).take (Tryd.prog.cellsOf 3)) = some y0 := hf 0 _ rfl
      have h1 : DataW.trod enc Tryd.prog w base (fun _ => true) held m 3 (([c0, c1, c2, c3].drop 1).take (Tryd.prog.cellsOf 3)) = some y1 := hf 1 _ rfl
      have h2 : DataW.trod enc Tryd.prog w base (fun _ => true) held m 27 (([c0, c1, c2, c3].drop 2).take (Tryd.prog.cellsOf 27)) = some y2 := hf 2 _ rfl
      have h3 : DataW.trod enc Tryd.prog w base (fun _ => true) held m 28 (([c0, c1, c2, c3].drop 3).take (Tryd.prog.cellsOf 28)) = some y3 := hf 3 _ rfl
      rw [cells_int14] at h0 h1
      rw [cells_ints14] at h2
      rw [cells_u64b] at h3
      obtain ⟨a0, e0, _, w0⟩ := DataW.trod_int Tryd.underlying3 (show DataW.trod enc Tryd.prog w base (fun _ => true) held m 3 [c0] = some y0 from h0)
      obtain ⟨a1, e1, _, w1⟩ := DataW.trod_int Tryd.underlying3 (show DataW.trod enc Tryd.prog w base (fun _ => true) held m 3 [c1] = some y1 from h1)
      obtain ⟨LA, lc, L, e2, hs, hz⟩ := cell_ints14 (show DataW.trod enc Tryd.prog w base (fun _ => true) held m 27 [c2] = some y2 from h2)
      obtain ⟨a3, e3, _, w3⟩ := DataW.trod_int Tryd.underlying28 (show DataW.trod enc Tryd.prog w base (fun _ => true) held m 28 [c3] = some y3 from h3)
      injection e0 with e0
      injection e1 with e1
      injection e3 with e3
      subst e0 e1 e2 e3
      have b1 := bounds_i64 w1
      have b3 := bounds_u64 w3
      have q3 : ((a3.toNat : Nat) : Int) = a3 := by omega
      refine ⟨⟨a0, a1, L, LA, lc, a3.toNat⟩, ?_, by show _ ≤ a1; omega, by show a1 < _; omega, hs, hz⟩
      show _ = [Value.int .i64 a0, .int .i64 a1, .slice LA L.length lc, .int .u64 ((a3.toNat : Nat) : Int)]
      rw [q3]
theorem arg_act14 {v : Value} {d : DataW H} {p : List MemPlace} {r : Reach} {b0 : Nat} (hv : Value.okWide Tryd.prog w r b0 30 v) (h : DataW.Trod enc Tryd.prog w base (fun _ => true) held 30 v d p) :
    ∃ x : At14, v = .agg x.vals.toArray ∧ x.Ok w := by
  obtain ⟨cs, rfl, _⟩ := okWide_struct Tryd.underlying30 hv
  obtain ⟨fuel, hf⟩ := h
  obtain ⟨x, e, hx⟩ := act14_of hf
  exact ⟨x, by rw [← e]; simp [Value.cells], hx⟩
theorem arg_acts14 {v : Value} {d : DataW H} {p : List MemPlace} {r : Reach} {b0 : Nat} (hv : Value.okWide Tryd.prog w r b0 22 v) (h : DataW.Trod enc Tryd.prog w base (fun _ => true) held 22 v d p) :
    ∃ A cp, ∃ its : List At14, v = .slice A its.length cp ∧ Ats14 w A its.length cp its := by
  obtain ⟨a0, len0, cap0, rfl⟩ := okWide_slice Tryd.underlying22 hv
  obtain ⟨fuel, hf⟩ := h
  rcases open_slice Tryd.underlying22 hf with ⟨hcs, _⟩ | ⟨a, len, cap, m, n, D, Pl, hcs, _, hl, hm, hmm, _, hi⟩
  · simp [Value.cells] at hcs
    obtain ⟨rfl, rfl, rfl⟩ := hcs
    exact ⟨none, 0, [], rfl, rfl, Nat.le_refl _, by decide, fun i x hx => by simp at hx⟩
  · simp [Value.cells] at hcs
    obtain ⟨rfl, rfl, rfl⟩ := hcs
    simp only [if_true] at hmm
    have each : ∀ i, i < len0 → ∃ x : At14, (∀ (j : Nat) u, x.vals[j]? = some u → w.cell? ((a.add (i * 4)).add j) = some u) ∧ x.Ok w := by
      intro i hi'
      obtain ⟨cs', hc, ht⟩ := hi i (by omega)
      obtain ⟨x, rfl, hx⟩ := act14_of ht
      rw [cells_act14] at hc
      obtain ⟨_, _, hat⟩ := World.cells?_some hc
      refine ⟨x, fun j u hu => ?_, hx⟩
      have hj : j < 4 := by
        rcases Nat.lt_or_ge j 4 with h' | h'
        · exact h'
        · rw [List.getElem?_eq_none (by simpa [At14.vals] using h')] at hu; cases hu
      rw [hat j hj, hu]
    obtain ⟨y, hy⟩ := choose_lt each
    refine ⟨some a, cap0, (List.range len0).map y, by simp, by simp, by simpa using hl, hm, fun i x hx => ?_⟩
    have hin : i < len0 := by
      rcases Nat.lt_or_ge i len0 with h' | h'
      · exact h'
      · rw [List.getElem?_eq_none (by simpa using h')] at hx; cases hx
    rw [List.getElem?_map, List.getElem?_range hin, Option.map_some] at hx
    injection hx with hx
    obtain ⟨hcell, hs⟩ := hy i hin
    rw [hx] at hcell hs
    obtain ⟨b, o, spot⟩ := a
    have hspot : spot = none := by
      have h0 := (hy 0 (by omega)).1 0 _ rfl
      simpa [Addr.add] using World.cell?_spot h0
    subst hspot
    simp only [Addr.add_lit] at hcell
    exact ⟨b, o, rfl, hcell, hs⟩
end
/-- A bool; if it is true the acts' lists are short. -/
def RetB14 (its : List At14) (w : World) (e : Ending) (w' : World) : Prop := ∃ β, e = .returned (.bool β) ∧ w' = w ∧ (β = true → ∀ x ∈ its, x.L.length ≤ 100)
set_option maxRecDepth 20000
set_option maxHeartbeats 800000
theorem few14_any (A : Option Addr) (n c : Nat) (its : List At14) (w : World) (h : Ats14 w A n c its) : Calls Tryd.prog 6 #[.slice A n c] w (RetB14 its w) := by
  have hcap := h.cap
  have htop := h.top
  unfold maxLen at htop
  have HS := Lib.hid h
  clear h
  go_enter Tryd.func6, Tryd.ntmps6
  go_wp2_with fail
  go_loopw [3] (fun i wr => ∃ t : Nat, t ≤ n ∧ t ≤ 100 ∧ i = .int .i64 (t : Int) ∧ (∀ (y : Nat) (x : At14), y < t → its[y]? = some x → x.L.length ≤ 100) ∧ wr = w) (fun i _ => n - (intOf i).toNat)
  case atStart => exact ⟨0, by omega, by omega, rfl, fun y x hy => absurd hy (by omega), rfl⟩
  case round =>
    obtain ⟨t, ht, ht2, rfl, hall, hw⟩ := hrel
    obtain rfl : w = wr := hw.symm
    have Hall := Lib.hid hall
    clear hall
    by_cases htn : t < n
    · have hti : (t : Int) < (n : Int) := by omega
      by_cases htl : t < 100
      · have htl' : (t : Int) < 100 := by omega
        obtain ⟨a, ha⟩ : ∃ a, its[t]? = some a := ⟨_, List.getElem?_eq_getElem (by rw [HS.out.len]; exact htn)⟩
        obtain ⟨ba, oa, rfl, hcell, hok⟩ := HS.out.cell t a ha
        have k2 := hcell 2 _ rfl
        obtain ⟨kn, hkn⟩ : ∃ kn, kn = a.L.length := ⟨_, rfl⟩
        rw [← hkn] at k2
        have Hkn := Lib.hid hkn
        have Ha := Lib.hid ha
        clear hcell hok ha hkn
        by_cases hk3 : (100 : Int) < (kn : Int)
        · go_wp2_with fail
          go_ret
          exact ⟨false, rfl, rfl, fun h => by cases h⟩
        · go_wp2_with fail
          go_roundw
          case rel => exact ⟨t + 1, by omega, by omega, by go_num, fun y x hy hx => by
            by_cases e : y = t
            · subst e
              rw [Ha.out] at hx
              injection hx with hx
              rw [← hx, ← Hkn.out]
              omega
            · exact Hall.out y x (by omega) hx, by first | rfl | trivial⟩
          case measure => simp [intOf]; omega
      · have htl' : ¬ (t : Int) < 100 := by omega
        have h80 : ¬ (n : Int) ≤ 80 := by omega
        go_wp2_with fail
        go_ret
        exact ⟨false, rfl, rfl, fun h => by cases h⟩
    · have hti : ¬ (t : Int) < (n : Int) := by omega
      by_cases h80 : (n : Int) ≤ 80
      · go_wp2_with fail
        go_ret
        refine ⟨true, rfl, rfl, fun _ x hx => ?_⟩
        obtain ⟨y, hy, e⟩ := List.getElem_of_mem hx
        exact Hall.out y x (by have := HS.out.len; omega) (by rw [List.getElem?_eq_getElem hy, e])
      · go_wp2_with fail
        go_ret
        exact ⟨false, rfl, rfl, fun h => by cases h⟩
theorem in14_any (z : Int) (A : Option Addr) (n c : Nat) (l : List Int) (w : World) (h : Sl w 1 A n c (icells l)) (hl : l.length = n) :
    Calls Tryd.prog 9 #[.int .i64 z, .slice A n c] w fun e w' => e = .returned (.bool (decide (z ∈ l))) ∧ w' = w := by
  have hlim := h.lim
  unfold maxLen at hlim
  have H := Lib.hid h
  have HL := Lib.hid hl
  clear h hl
  go_enter Tryd.func9, Tryd.ntmps9
  go_wp2_with fail
  go_loopw [5] (fun i wr => ∃ j : Nat, j ≤ n ∧ i = .int .i64 (j : Int) ∧ (∀ x, x < j → l.getD x 0 ≠ z) ∧ wr = w) (fun i _ => n - (intOf i).toNat)
  case atStart => exact ⟨0, by omega, rfl, fun x hx => absurd hx (by omega), rfl⟩
  case round =>
    obtain ⟨j, hj, rfl, hall, hw⟩ := hrel
    obtain rfl : w = wr := hw.symm
    have Hall := Lib.hid hall
    clear hall
    by_cases hlt : j < n
    · have hji : (j : Int) < (n : Int) := by omega
      have hjl : j < l.length := by rw [HL.out]; exact hlt
      obtain ⟨b, o, rfl, hc⟩ := H.out.at_ hlt
      have hc1 := hc j _ (icells_at hjl)
      have hmem : l.getD j 0 ∈ l := by rw [List.getD_eq_getElem?_getD, List.getElem?_eq_getElem hjl]; exact List.getElem_mem _
      obtain ⟨x, hx⟩ : ∃ x, x = l.getD j 0 := ⟨_, rfl⟩
      rw [← hx] at hc1 hmem
      have Hx := Lib.hid hx
      have Hm := Lib.hid hmem
      clear hc hx hmem
      by_cases e : x = z
      · have hz : (x == z) = true := by simpa using e
        have He := Lib.hid e
        clear e
        go_wp2_with fail
        go_ret
        exact ⟨by rw [decide_eq_true (He.out ▸ Hm.out)]; rfl, rfl⟩
      · have hz : (x == z) = false := by simpa using e
        have He := Lib.hid e
        clear e
        go_wp2_with fail
        go_roundw
        case rel => exact ⟨j + 1, by omega, by go_num, fun y hy => by
          by_cases e : y = j
          · rw [e, ← Hx.out]; exact He.out
          · exact Hall.out y (by omega), by first | rfl | trivial⟩
        case measure => simp [intOf]; omega
    · obtain rfl : j = n := by omega
      go_wp2_with fail
      go_ret
      refine ⟨?_, rfl⟩
      rw [decide_eq_false]
      · rfl
      · intro hm
        obtain ⟨i, hi, e⟩ := List.getElem_of_mem hm
        exact Hall.out i (by rw [← HL.out]; exact hi) (by rw [List.getD_eq_getElem?_getD, List.getElem?_eq_getElem hi]; exact e)
/-- Integers in new memory. -/
def RetRi (w : World) (k : List Int) (e : Ending) (w' : World) : Prop := ∃ A c, e = .returned (.slice A k.length c) ∧ Rn w' A 3 1 k.length c (icells k) ∧ Below w.heap.size w w' ∧ ∀ b, Bk A b → w.heap.size ≤ b
def withoutL (l gone : List Int) : List Int := l.filter fun z => !decide (z ∈ gone)
theorem without14_any (A : Option Addr) (n c : Nat) (l : List Int) (A2 : Option Addr) (n2 c2 : Nat) (gone : List Int) (w : World) (h : Sl w 1 A n c (icells l)) (hl : l.length = n) (hn : n ≤ 1000000) (h2 : Sl w 1 A2 n2 c2 (icells gone)) (hl2 : gone.length = n2) :
    Calls Tryd.prog 11 #[.slice A n c, .slice A2 n2 c2] w (RetRi w (withoutL l gone)) := by
  have hlim := h.lim
  unfold maxLen at hlim
  have H := Lib.hid h
  have HL := Lib.hid hl
  have H2 := Lib.hid h2
  have HL2 := Lib.hid hl2
  clear h hl h2 hl2
  go_enter Tryd.func11, Tryd.ntmps11
  go_wp2_with fail
  go_loopw [5, 6] (fun x i wr => ∃ (j : Nat) (k : List Int) (A : Option Addr) (c : Nat), x = .slice A k.length c ∧ i = .int .i64 (j : Int) ∧ j ≤ n ∧ k = withoutL (l.take j) gone ∧ Rn wr A 3 1 k.length c (icells k) ∧ Below w.heap.size w wr ∧ (∀ b, Bk A b → w.heap.size ≤ b)) (fun _ i _ => n - (intOf i).toNat)
  case atStart => exact ⟨0, [], none, 0, rfl, rfl, by omega, rfl, .inl ⟨rfl, rfl, rfl, rfl⟩, Below.refl _ _, fun b hb => by obtain ⟨o, e⟩ := hb; cases e⟩
  case round =>
    obtain ⟨j, k, A3, c3, rfl, rfl, hj, hk, hr, hb, hA⟩ := hrel
    have Hk := Lib.hid hk
    have Hr := Lib.hid hr
    have Hb := Lib.hid hb
    have HA := Lib.hid hA
    by_cases hlt : j < n
    · have hji : (j : Int) < (n : Int) := by omega
      have hjl : j < l.length := by rw [HL.out]; exact hlt
      obtain ⟨b, o, rfl, hc⟩ := (H.out.below hb (Nat.le_refl _)).at_ hlt
      have hc1 := hc j _ (icells_at hjl)
      have hkl : k.length ≤ j := by rw [hk]; exact Nat.le_trans (List.length_filter_le _ _) (List.length_take_le _ _)
      have hsn : withoutL (l.take (j + 1)) gone = k ++ (if decide (l.getD j 0 ∈ gone) = true then [] else [l.getD j 0]) := by
        rw [hk, withoutL, withoutL, List.take_succ_eq_append_getElem hjl, List.filter_append]
        have : l.getD j 0 = l[j] := by simp [hjl]
        rw [this, List.filter_cons, List.filter_nil]
        by_cases e : l[j] ∈ gone <;> simp [e]
      obtain ⟨x, hx⟩ : ∃ x, x = l.getD j 0 := ⟨_, rfl⟩
      rw [← hx] at hc1 hsn
      have hcall := in14_any x A2 n2 c2 gone wr (H2.out.below hb (Nat.le_refl _)) HL2.out
      obtain ⟨y, hy⟩ : ∃ y, y = decide (x ∈ gone) := ⟨_, rfl⟩
      rw [← hy] at hcall hsn
      obtain ⟨q, hq⟩ : ∃ q, q = k.length := ⟨_, rfl⟩
      rw [← hq] at hkl ⊢
      have Hq := Lib.hid hq
      have Hsn := Lib.hid hsn
      clear hc hk hr hb hA hx hy hq hsn
      cases y
      · go_wp2_with fail
        refine hcall.mono ?_; clear hcall; rintro e w2 ⟨rfl, hw2⟩
        obtain rfl : wr = w2 := hw2.symm
        have hbx : Below wr.heap.size wr (wr.alloc (.cells #[.int .i64 x] 3)) := (Below.refl _ _).alloc (Nat.le_refl _) _
        have hr2 := Hr.out.later hbx
        rw [← Hq.out] at hr2
        have Hr2 := Lib.hid hr2
        have Hbx := Lib.hid (Hb.out.trans (hbx.mono Hb.out.size))
        clear hr2 hbx
        go_wp2_with (at_builtin; refine wpList_append_ri rfl (.tmp 20) (.tmp 25) rfl rfl Hr2.out (some ⟨wr.heap.size, 0, none⟩) 1 1 [x] rfl (Sl.made wr #[.int .i64 x] 3 1 1 rfl (by decide)) ?pb ?pc)
        case pb => omega
        intro A4 c4 w4 ho4 hf4 he4
        have Ho4 := Lib.hid ho4
        have Hb4 := Lib.hid (Hbx.out.trans (hf4.below Hbx.out.size (fun b hb => HA.out b hb)))
        have HA4 := Lib.hid (show ∀ b, Bk A4 b → w.heap.size ≤ b from by
          rintro b ⟨o, e⟩
          rcases he4 with he4 | he4
          · exact HA.out b ⟨o, he4 ▸ e⟩
          · rw [he4] at e
            injection e with e
            injection e with e _
            have := Hbx.out.size
            have := Hb.out.size
            omega)
        clear ho4 hf4 he4
        go_wp2_with fail
        go_roundw
        case rel => exact ⟨j + 1, k ++ [x], A4, c4, by rw [List.length_append, List.length_singleton, ← Hq.out], by go_num, by omega, by rw [Hsn.out]; rfl, by rw [List.length_append, List.length_singleton, ← Hq.out]; exact Ho4.out, Hb4.out, HA4.out⟩
        case measure => simp [intOf]; omega
      · go_wp2_with fail
        refine hcall.mono ?_; clear hcall; rintro e w2 ⟨rfl, hw2⟩
        obtain rfl : wr = w2 := hw2.symm
        go_wp2_with fail
        go_roundw
        case rel => exact ⟨j + 1, k, A3, c3, by rw [Hq.out], by go_num, by omega, by rw [Hsn.out]; simp, Hr.out, Hb.out, HA.out⟩
        case measure => simp [intOf]; omega
    · obtain rfl : j = n := by omega
      clear hk hr hb hA
      go_wp2_with fail
      go_ret
      have e : l.take j = l := by rw [← HL.out, List.take_length]
      have hk := Hk.out
      rw [e] at hk
      exact ⟨A3, c3, by rw [← hk]; rfl, by rw [← hk]; exact Hr.out, Hb.out, HA.out⟩
end Go.Proofs.YtgkdpljlgdlekaaDoor

/-
  Arguments of type []Act (layer 10) as they are read; layer 10's Few: true only of at most 80 acts. No condition.
-/
import Derived.Test.YtjjoeaneaibklaaOpi
import Derived.Test.YtjjoeaneaibklaaDto
import Derived.Deep.Slices
import Derived.Deep.Fields
namespace Go.Proofs.Ytjjoeaneaibklaa
open Go.ChangeShapes Go.WideShapes Go.ChangeAt Go.RowKit Go.Proofs Go.Deep
set_option linter.unusedVariables false

/-- An act: what the law's Act reads as; ks: its lists, with where they lie. -/
structure Bc where
  kind : Int
  d : Int
  at_ : Int
  off : Int
  c : UInt8
  mask : Nat
  ks : List (List Bool)
  KA : Option Addr
  kc : Nat
instance : Inhabited Bc := ⟨⟨0, 0, 0, 0, 0, 0, [], none, 0⟩⟩
namespace Bc
def vals (a : Bc) : List Value := [.int .i64 a.kind, .int .i64 a.d, .int .i64 a.at_, .int .i64 a.off, .int .u8 (a.c.toNat : Int), .int .u32 (a.mask : Int), .slice a.KA a.ks.length a.kc]
structure Ok (w : World) (a : Bc) : Prop where
  at1 : -9223372036854775808 ≤ a.at_
  at2 : a.at_ < 9223372036854775808
  off1 : -9223372036854775808 ≤ a.off
  off2 : a.off < 9223372036854775808
  mask : a.mask < 4294967296
  ks : Ns bcells w (fun b => b < w.heap.size) a.KA a.ks.length a.kc a.ks
end Bc
/-- The slice reads as acts. -/
structure Bcs (w : World) (A : Option Addr) (n c : Nat) (its : List Bc) : Prop where
  len : its.length = n
  cap : n ≤ c
  top : c ≤ maxLen
  cell : ∀ (i : Nat) (x : Bc), its[i]? = some x → ∃ b o, A = some ⟨b, o, none⟩ ∧ (∀ (j : Nat) u, x.vals[j]? = some u → w.cell? ⟨b, o + i * 7 + j, none⟩ = some u) ∧ x.Ok w
theorem Bc.Ok.below {w w' : World} {a : Bc} (h : a.Ok w) (hb : Below w.heap.size w w') : a.Ok w' := ⟨h.at1, h.at2, h.off1, h.off2, h.mask, (h.ks.later hb).wid fun b hb' => Nat.lt_of_lt_of_le hb' hb.size⟩
theorem Bcs.below {w w' : World} {A : Option Addr} {n c : Nat} {its : List Bc} (h : Bcs w A n c its) (hb : Below w.heap.size w w') : Bcs w' A n c its :=
  ⟨h.len, h.cap, h.top, fun i x hx => by
    obtain ⟨b, o, e, h1, h2⟩ := h.cell i x hx
    exact ⟨b, o, e, fun j u hu => (hb.cell (p := ⟨b, o + i * 7 + j, none⟩) (World.block_lt_of_cell? w _ (h1 j u hu))).trans (h1 j u hu), h2.below hb⟩⟩
theorem cells_act10 : Try.prog.cellsOf 33 = 7 := by kernel_rfl
theorem cells_int10 : Try.prog.cellsOf 3 = 1 := by kernel_rfl
theorem cells_byte10 : Try.prog.cellsOf 5 = 1 := by kernel_rfl
theorem cells_u32b : Try.prog.cellsOf 30 = 1 := by kernel_rfl
theorem cells_bools2 : Try.prog.cellsOf 31 = 1 := by kernel_rfl
section
variable {H : Type} {enc : TypeId × Value → H} {w : World} {base : Nat} {held : Bool} {fuel : Nat}
set_option maxRecDepth 100000
theorem cell_bools2 {m : Nat} {c0 : Value} {y : DataW H × List MemPlace} (h : DataW.trod enc Try.prog w base (fun _ => true) held m 31 [c0] = some y) :
    ∃ A cp, ∃ l : List (List Bool), c0 = .slice A l.length cp ∧ Ns bcells w (fun b => b < w.heap.size) A l.length cp l := by
  rcases open_bool_rows Try.underlying31 Try.underlying56 Try.underlying4 (by kernel_rfl) (by kernel_rfl) h with ⟨hcs, _⟩ | ⟨a, len, cap, A, L, C, B, hcs, _, hl, hm, _, hrow⟩
  · injection hcs with hcs
    exact ⟨none, 0, [], hcs, Ns.nil w _ 0 (by decide)⟩
  · injection hcs with hcs
    have each : ∀ r, r < cap → Sl w 1 (A r) ((List.range (L r)).map (B r)).length (C r) (bcells ((List.range (L r)).map (B r))) := by
      intro r hr
      obtain ⟨_, h1, h2, h3, h4⟩ := hrow r hr
      rcases hA : A r with _ | x
      · have hC := h3 hA
        have hL : L r = 0 := by omega
        rw [hL, hC]
        exact Sl.nil w 1 0 (by decide)
      · exact bools_sl h1 h2 (h4 x hA).2
    obtain ⟨b, off, spot⟩ := a
    have hspot : 0 < cap → spot = none := fun h0 => by simpa [Addr.add] using World.cell?_spot (hrow 0 h0).1
    refine ⟨some ⟨b, off, spot⟩, cap, (List.range len).map fun r => (List.range (L r)).map (B r), by rw [hcs]; simp, ⟨⟨(List.range len).map fun r => .slice (A r) (L r) (C r), ⟨by simp, by simpa using hl, hm, fun j u hu => ?_⟩, fun i r hi => ?_⟩, rfl, fun b' o' hn hA => ?_⟩⟩
    · have hj : j < len := by
        rcases Nat.lt_or_ge j len with h' | h'
        · exact h'
        · rw [List.getElem?_eq_none (by simpa using h')] at hu; cases hu
      rw [List.getElem?_map, List.getElem?_range hj, Option.map_some] at hu
      injection hu with hu
      have hs := hspot (by omega)
      subst hs
      have hc := (hrow j (by omega)).1
      rw [Go.WideShapes.add_plain, hu] at hc
      exact ⟨b, off, rfl, hc⟩
    · have hin : i < len := by
        rcases Nat.lt_or_ge i len with h' | h'
        · exact h'
        · rw [List.getElem?_eq_none (by simpa using h')] at hi; cases hi
      rw [List.getElem?_map, List.getElem?_range hin, Option.map_some] at hi
      injection hi with hi
      have hs := each i (by omega)
      rw [hi] at hs
      refine ⟨A i, C i, by rw [List.getElem?_map, List.getElem?_range hin, Option.map_some, ← hi]; simp, hs, fun b o hn hA => hs.lt (by decide) hn hA⟩
    · have hn' : 0 < len := by simpa using hn
      injection hA with hA
      have hs := hspot (by omega)
      subst hs
      injection hA with hA _
      subst hA
      have hc := (hrow 0 (by omega)).1
      rw [Go.WideShapes.add_plain] at hc
      exact World.block_lt_of_cell? w _ hc
/-- One act, out of its seven cells. -/
theorem act10_of {cs : List Value} {y : DataW H × List MemPlace}
    (h : DataW.trod enc Try.prog w base (fun _ => true) held fuel 33 cs = some y) : ∃ x : Bc, cs = x.vals ∧ x.Ok w := by
  obtain ⟨xs, m, _, _, hl, hxl, hf⟩ := DataW.trod_struct Try.underlying33 h
  rw [cells_act10] at hl
  match cs, hl with
  | [c0, c1, c2, c3, c4, c5, c6], _ =>
    match xs, hxl with
    | [y0, y1, y2, y3, y4, y5, y6], _ =>
      have h0 : DataW.trod enc Try.prog w base (fun _ => true) held m 3 (([c0, c1, c2, c3, c4, c5, c6].drop 0).take (Try.prog.cellsOf 3)) = some y0 := hf 0 _ rfl
      have h1 : DataW.trod enc Try.prog w base (fun _ => true) held m 3 (([c0, c1, c2, c3, c4, c5, c6].drop 1).take (Try.prog.cellsOf 3)) = some y1 := hf 1 _ rfl
      have h2 : DataW.trod enc Try.prog w base (fun _ => true) held m 3 (([c0, c1, c2, c3, c4, c5, c6].drop 2).take (Try.prog.cellsOf 3)) = some y2 := hf 2 _ rfl
      have h3 : DataW.trod enc Try.prog w base (fun _ => true) held m 3 (([c0, c1, c2, c3, c4, c5, c6].drop 3).take (Try.prog.cellsOf 3)) = some y3 := hf 3 _ rfl
      have h4 : DataW.trod enc Try.prog w base (fun _ => true) held m 5 (([c0, c1, c2, c3, c4, c5, c6].drop 4).take (Try.prog.cellsOf 5)) = some y4 := hf 4 _ rfl
      have h5 : DataW.trod enc Try.prog w base (fun _ => true) held m 30 (([c0, c1, c2, c3, c4, c5, c6].drop 5).take (Try.prog.cellsOf 30)) = some y5 := hf 5 _ rfl
      have h6 : DataW.trod enc Try.prog w base (fun _ => true) held m 31 (([c0, c1, c2, c3, c4, c5, c6].drop 6).take (Try.prog.cellsOf 31)) = some y6 := hf 6 _ rfl
      rw [cells_int10] at h0 h1 h2 h3
      rw [cells_byte10] at h4
      rw [cells_u32b] at h5
      rw [cells_bools2] at h6
      obtain ⟨a0, e0, _, w0⟩ := DataW.trod_int Try.underlying3 (show DataW.trod enc Try.prog w base (fun _ => true) held m 3 [c0] = some y0 from h0)
      obtain ⟨a1, e1, _, w1⟩ := DataW.trod_int Try.underlying3 (show DataW.trod enc Try.prog w base (fun _ => true) held m 3 [c1] = some y1 from h1)
      obtain ⟨a2, e2, _, w2⟩ := DataW.trod_int Try.underlying3 (show DataW.trod enc Try.prog w base (fun _ => true) held m 3 [c2] = some y2 from h2)
      obtain ⟨a3, e3, _, w3⟩ := DataW.trod_int Try.underlying3 (show DataW.trod enc Try.prog w base (fun _ => true) held m 3 [c3] = some y3 from h3)
      obtain ⟨a4, e4, _, w4⟩ := DataW.trod_int Try.underlying5 (show DataW.trod enc Try.prog w base (fun _ => true) held m 5 [c4] = some y4 from h4)
      obtain ⟨a5, e5, _, w5⟩ := DataW.trod_int Try.underlying30 (show DataW.trod enc Try.prog w base (fun _ => true) held m 30 [c5] = some y5 from h5)
      obtain ⟨KA, kc, ks, e6, hks⟩ := cell_bools2 (show DataW.trod enc Try.prog w base (fun _ => true) held m 31 [c6] = some y6 from h6)
      injection e0 with e0
      injection e1 with e1
      injection e2 with e2
      injection e3 with e3
      injection e4 with e4
      injection e5 with e5
      subst e0 e1 e2 e3 e4 e5 e6
      have b2 := bounds_i64 w2
      have b3 := bounds_i64 w3
      have b4 := bounds_u8 w4
      have b5 := bounds_u32 w5
      refine ⟨⟨a0, a1, a2, a3, UInt8.ofNat a4.toNat, a5.toNat, ks, KA, kc⟩, ?_, by show _ ≤ a2; omega, by show a2 < _; omega, by show _ ≤ a3; omega, by show a3 < _; omega, by show a5.toNat < _; omega, hks⟩
      have q4 : ((UInt8.ofNat a4.toNat).toNat : Int) = a4 := by rw [UInt8.toNat_ofNat']; omega
      have q5 : ((a5.toNat : Nat) : Int) = a5 := by omega
      show _ = [Value.int .i64 a0, .int .i64 a1, .int .i64 a2, .int .i64 a3, .int .u8 ((UInt8.ofNat a4.toNat).toNat : Int), .int .u32 ((a5.toNat : Nat) : Int), .slice KA ks.length kc]
      rw [q4, q5]
theorem arg_bcs {v : Value} {d : DataW H} {p : List MemPlace} {r : Reach} {b0 : Nat} (hv : Value.okWide Try.prog w r b0 22 v) (h : DataW.Trod enc Try.prog w base (fun _ => true) held 22 v d p) :
    ∃ A cp, ∃ its : List Bc, v = .slice A its.length cp ∧ Bcs w A its.length cp its := by
  obtain ⟨a0, len0, cap0, rfl⟩ := okWide_slice Try.underlying22 hv
  obtain ⟨fuel, hf⟩ := h
  rcases open_slice Try.underlying22 hf with ⟨hcs, _⟩ | ⟨a, len, cap, m, n, D, Pl, hcs, _, hl, hm, hmm, _, hi⟩
  · simp [Value.cells] at hcs
    obtain ⟨rfl, rfl, rfl⟩ := hcs
    exact ⟨none, 0, [], rfl, rfl, Nat.le_refl _, by decide, fun i x hx => by simp at hx⟩
  · simp [Value.cells] at hcs
    obtain ⟨rfl, rfl, rfl⟩ := hcs
    simp only [if_true] at hmm
    have each : ∀ i, i < len0 → ∃ x : Bc, (∀ (j : Nat) u, x.vals[j]? = some u → w.cell? ((a.add (i * 7)).add j) = some u) ∧ x.Ok w := by
      intro i hi'
      obtain ⟨cs', hc, ht⟩ := hi i (by omega)
      obtain ⟨x, rfl, hx⟩ := act10_of ht
      rw [cells_act10] at hc
      obtain ⟨_, _, hat⟩ := World.cells?_some hc
      refine ⟨x, fun j u hu => ?_, hx⟩
      have hj : j < 7 := by
        rcases Nat.lt_or_ge j 7 with h' | h'
        · exact h'
        · rw [List.getElem?_eq_none (by simpa [Bc.vals] using h')] at hu; cases hu
      rw [hat j hj, hu]
    obtain ⟨y, hy⟩ := choose_lt each
    refine ⟨some a, cap0, (List.range len0).map y, by simp, by simp, by simpa using hl, hm, fun i x hx => ?_⟩
    have hin : i < len0 := by
      rcases Nat.lt_or_ge i len0 with h' | h'
      · exact h'
      · rw [List.getElem?_eq_none (by simpa using h')] at hx; cases hx
    rw [List.getElem?_map, List.getElem?_range hin, Option.map_some] at hx
    injection hx with hx
    obtain ⟨hcell, hs⟩ := hy i hin
    rw [hx] at hcell hs
    obtain ⟨b, o, spot⟩ := a
    have hspot : spot = none := by
      have h0 := (hy 0 (by omega)).1 0 _ rfl
      simpa [Addr.add] using World.cell?_spot h0
    subst hspot
    simp only [Addr.add_lit] at hcell
    exact ⟨b, o, rfl, hcell, hs⟩
end
/-- What Few answers. -/
def RetFew10 (n : Nat) (w : World) (e : Ending) (w' : World) : Prop := ∃ β, e = .returned (.bool β) ∧ (β = true → n ≤ 80) ∧ Below w.heap.size w w'
set_option maxRecDepth 20000 in
set_option maxHeartbeats 3200000 in
theorem few10_any (v : Int) (A : Option Addr) (c : Nat) (its : List Bc) (w : World) (h : Bcs w A its.length c its) : Calls Try.prog 6 #[.int .i64 v, .slice A its.length c] w (RetFew10 its.length w) := by
  obtain ⟨n, hn⟩ : ∃ n, n = its.length := ⟨_, rfl⟩
  rw [← hn] at h ⊢
  have hcap := h.cap
  have htop := h.top
  unfold maxLen at htop
  have HS := Lib.hid h
  have HN := Lib.hid hn
  clear h hn
  go_enter Try.func6, Try.ntmps6
  go_wp2_with fail
  go_loopw [5] (fun i wr => ∃ t : Nat, t ≤ n ∧ t ≤ 100 ∧ i = .int .i64 (t : Int) ∧ wr = w) (fun i _ => n - (intOf i).toNat)
  case atStart => exact ⟨0, by omega, by omega, rfl, rfl⟩
  case round =>
    obtain ⟨t, ht, ht2, rfl, hw⟩ := hrel
    obtain rfl : w = wr := hw.symm
    by_cases htn : t < n
    · have hti : (t : Int) < (n : Int) := by omega
      by_cases htl : t < 100
      · have htl' : (t : Int) < 100 := by omega
        obtain ⟨a, ha⟩ : ∃ a, its[t]? = some a := ⟨_, List.getElem?_eq_getElem (by rw [← HN.out]; exact htn)⟩
        obtain ⟨ba, oa, rfl, hcell, hok⟩ := HS.out.cell t a ha
        have k6 := hcell 6 _ rfl
        have HKS := Lib.hid hok.ks
        have hkx := hok.ks.capLe
        unfold maxLen at hkx
        obtain ⟨kn, hkn⟩ : ∃ kn, kn = a.ks.length := ⟨_, rfl⟩
        rw [← hkn] at k6 hkx
        have HKN := Lib.hid hkn
        clear hcell hok ha hkn
        by_cases hk3 : (300 : Int) < (kn : Int)
        · go_wp2_with fail
          go_ret
          exact ⟨false, rfl, (fun h => by cases h), Below.refl _ _⟩
        · go_wp2_with fail
          go_loopw [6] (fun i wr => ∃ k : Nat, k ≤ kn ∧ i = .int .i64 (k : Int) ∧ wr = w) (fun i _ => kn - (intOf i).toNat)
          case atStart => exact ⟨0, by omega, rfl, rfl⟩
          case round =>
            obtain ⟨k, hk, rfl, hw⟩ := hrel
            obtain rfl : w = wr := hw.symm
            by_cases hkl : k < kn
            · have hki : (k : Int) < (kn : Int) := by omega
              obtain ⟨bk, ok, hKA, _, hkc⟩ := HKS.out.at_ (by rw [← HKN.out]; omega)
              obtain ⟨r, hr⟩ : ∃ r, a.ks[k]? = some r := ⟨_, List.getElem?_eq_getElem (by rw [← HKN.out]; exact hkl)⟩
              obtain ⟨Ar, cr, hcr, _, _⟩ := hkc k r hr
              rw [hKA] at k6
              obtain ⟨rn, hrn⟩ : ∃ rn, rn = r.length := ⟨_, rfl⟩
              rw [← hrn] at hcr
              clear hkc hr hrn
              by_cases hr1 : (100 : Int) < (rn : Int)
              · go_wp2_with fail
                go_ret
                exact ⟨false, rfl, (fun h => by cases h), Below.refl _ _⟩
              · go_wp2_with fail
                go_roundw
                case rel => exact ⟨k + 1, by omega, by go_num, by first | rfl | trivial⟩
                case measure => simp [intOf]; omega
            · have hki : ¬ (k : Int) < (kn : Int) := by omega
              go_wp2_with fail
              go_roundw
              case rel => exact ⟨t + 1, by omega, by omega, by go_num, by first | rfl | trivial⟩
              case measure => simp [intOf]; omega
      · have htl' : ¬ (t : Int) < 100 := by omega
        have h80 : ¬ (n : Int) ≤ 80 := by omega
        go_wp2_with fail
        go_ret
        exact ⟨false, rfl, (fun h => by cases h), Below.refl _ _⟩
    · have hti : ¬ (t : Int) < (n : Int) := by omega
      by_cases h80 : (n : Int) ≤ 80
      · go_wp2_with fail
        go_ret
        exact ⟨true, rfl, (fun _ => by omega), Below.refl _ _⟩
      · go_wp2_with fail
        go_ret
        exact ⟨false, rfl, (fun h => by cases h), Below.refl _ _⟩
end Go.Proofs.Ytjjoeaneaibklaa

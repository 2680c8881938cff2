/-
  Rows that are laid into places in any order ('Nr'); the contract of package stripe's bodies. No condition but bounds. (Written by gen_edd.py.)
-/
import Derived.Test.YtajdholblmdnjaaGreatDoorEdb
import Derived.Test.YtajdholblmdnjaaGreatDoorEdc
import Derived.Test.YtajdholblmdnjaaGreatDoorLc
set_option linter.unusedVariables false
set_option maxRecDepth 100000
set_option maxHeartbeats 1600000
namespace Go.Proofs.YtajdholblmdnjaaGreatDoor
open Go.RowKit Go.Proofs
structure Nr (w : World) (B0 B n : Nat) (rs : List (List UInt8)) : Prop where
 ex : ∃ vs : List Value, Rw w B 24 1 n n vs ∧ ∀ (i : Nat) (r : List UInt8), rs[i]? = some r → ∃ A' c', vs[i]? = some (Value.slice A' r.length c') ∧ Sl w 1 A' r.length c' (cells r) ∧ ∀ b o, 0 < r.length → A' = some ⟨b, o, none⟩ → B0 ≤ b ∧ b ≠ B
 len : rs.length = n
section
variable {w w' : World} {B0 B n j : Nat} {rs : List (List UInt8)} {r : List UInt8}
theorem Nr.lt (h : Nr w B0 B n rs) : B < w.heap.size := by
 obtain ⟨vs, h1, _⟩ := h.ex
 exact h1.lt
theorem Nr.later (h : Nr w B0 B n rs) (hb : Below w.heap.size w w') : Nr w' B0 B n rs := by
 obtain ⟨vs, h1, h3⟩ := h.ex
 refine ⟨⟨vs, h1.later hb, fun i r hi => ?_⟩, h.len⟩
 obtain ⟨A', c', g1, g2, g3⟩ := h3 i r hi
 exact ⟨A', c', g1, g2.below hb (Nat.le_refl _), g3⟩
theorem Nr.made (w : World) (B0 n : Nat) (hn : n ≤ maxLen) : Nr (w.alloc (.cells (madeCells #[.slice none 0 0] n) 24)) B0 w.heap.size n (List.replicate n []) :=
 ⟨⟨List.replicate n (.slice none 0 0), Rw.made w _ _ n hn, fun i r hi => by
  rw [List.getElem?_replicate] at hi
  split at hi
  ·rename_i hin
   injection hi with hi
   subst hi
   exact ⟨none, 0, by rw [List.getElem?_replicate, if_pos hin]; rfl, Sl.nil _ 1 0 (by decide), fun b o h => absurd h (Nat.lt_irrefl _)⟩
  ·cases hi⟩, List.length_replicate ..⟩
theorem Nr.cell (h : Nr w B0 B n rs) (hj : j < n) : (∃ v, w.cell? ⟨B, j, none⟩ = some v) ∧ w.frozen? ⟨B, j, none⟩ = false := by
 obtain ⟨vs, h1, h3⟩ := h.ex
 have hl := h1.len
 exact ⟨⟨_, h1.cell (List.getElem?_eq_getElem (by omega))⟩, h1.free _⟩
theorem Nr.store (h : Nr w B0 B n rs) (hj : j < n) {A2 : Option Addr} {c2 : Nat} (h2 : Sl w 1 A2 r.length c2 (cells r)) (h2b : ∀ b o, 0 < r.length → A2 = some ⟨b, o, none⟩ → B0 ≤ b ∧ b ≠ B) : Nr (w.setCell ⟨B, j, none⟩ (.slice A2 r.length c2)) B0 B n (rs.set j r) := by
 obtain ⟨vs, h1, h3⟩ := h.ex
 have hvl := h1.len
 have hf : Fr (fun b => b = B) w (w.setCell ⟨B, j, none⟩ (.slice A2 r.length c2)) := (Fr.refl (fun b => b = B) _).setCell (p := ⟨B, j, none⟩) (.inr rfl) _
 refine ⟨⟨vs.set j (.slice A2 r.length c2), h1.set10 j _, fun i x hi => ?_⟩, by rw [List.length_set]; exact h.len⟩
 rw [List.getElem?_set] at hi
 split at hi
 ·rename_i hij
  subst hij
  split at hi
  ·injection hi with hi
   subst hi
   exact ⟨A2, c2, by rw [List.getElem?_set, if_pos rfl, if_pos (by omega)], h2.fr hf (fun b o hn hA => (h2b b o hn hA).2), h2b⟩
  ·cases hi
 ·rename_i hij
  obtain ⟨A3, c3, g1, g2, g3⟩ := h3 i x hi
  exact ⟨A3, c3, by rw [List.getElem?_set, if_neg hij]; exact g1, g2.fr hf (fun b o hn hA => (g3 b o hn hA).2), g3⟩
theorem Nr.ns (h : Nr w B0 B n rs) (hB : B0 ≤ B) : Ns cells w (fun b => B0 ≤ b) (some ⟨B, 0, none⟩) n n rs := by
 obtain ⟨vs, h1, h3⟩ := h.ex
 refine ⟨⟨vs, h1.sl, fun i r hi => ?_⟩, h.len, fun b o hn hA => ?_⟩
 ·obtain ⟨A', c', g1, g2, g3⟩ := h3 i r hi
  exact ⟨A', c', g1, g2, fun b o hn hA => (g3 b o hn hA).1⟩
 ·injection hA with hA
  injection hA with hA _
  rw [← hA]
  exact hB
theorem Nr.gr (h : Nr w B0 B n rs) : Gr w (some ⟨B, 0, none⟩) n n rs := by
 obtain ⟨vs, h1, h3⟩ := h.ex
 refine ⟨⟨vs, h1.sl, fun i r hi => ?_⟩, h.len⟩
 obtain ⟨A', c', g1, g2, _⟩ := h3 i r hi
 exact ⟨A', c', g1, g2⟩
end
def bodyF (f : Nat → Option Sh) (i : Nat) : List UInt8 := match f i with | some s => s.body | none => []
def bodyL (f : Nat → Option Sh) (n j : Nat) : List (List UInt8) := (List.range n).map fun i => if i < j then bodyF f i else []
theorem bodyL_len {f : Nat → Option Sh} {n j : Nat} : (bodyL f n j).length = n := by simp [bodyL]
theorem bodyL_zero {f : Nat → Option Sh} {n : Nat} : List.replicate n [] = bodyL f n 0 := by
 apply List.ext_getElem
 ·rw [bodyL_len, List.length_replicate]
 ·intro i h1 h2; simp [bodyL]
theorem bodyL_next {f : Nat → Option Sh} {n j : Nat} {s : Sh} (h : f j = some s) : (bodyL f n j).set j s.body = bodyL f n (j + 1) := by
 apply List.ext_getElem
 ·rw [List.length_set, bodyL_len, bodyL_len]
 ·intro i h1 h2
  rw [List.getElem_set]
  simp only [bodyL, List.getElem_map, List.getElem_range]
  by_cases e : j = i
  ·rw [if_pos e, if_pos (by omega), ← e, bodyF, h]
  ·rw [if_neg e]
   by_cases q : i < j
   ·rw [if_pos q, if_pos (by omega)]
   ·rw [if_neg q, if_neg (by omega)]
theorem bodyL_skip {f : Nat → Option Sh} {n j : Nat} (h : f j = none) : bodyL f n j = bodyL f n (j + 1) := by
 refine List.map_congr_left fun i _ => ?_
 by_cases q : i < j
 ·rw [if_pos q, if_pos (by omega)]
 ·rw [if_neg q]
  by_cases e : i < j + 1
  ·rw [if_pos e, show i = j by omega, bodyF, h]
  ·rw [if_neg e]
section
variable {w : World} {M c n : Nat} {f : Nat → Option Sh}
theorem bodies_any (h : Mv w M c f) (hn : n ≤ 255) (hok : ∀ i s, f i = some s → s.Ok) :
  Calls Tryz.prog 40 #[.map (some M), .int .i64 (n : Int)] w fun e w' => ∃ A', e = .returned (.slice A' n n) ∧ Gr w' A' n n (bodyL f n n) ∧ Below w.heap.size w w' := by
 have hzv := zero_shard
 have hmk := makes_eq (n : Int) n rfl (by omega)
 have H := Lib.hid h
 have HOK := Lib.hid hok
 clear h hok
 go_enter Tryz.func40, Tryz.ntmps40
 go_wp2_with fail
 have hb1 : Below w.heap.size w (w.alloc (.cells (madeCells #[.slice none 0 0] n) 24)) := (Below.refl _ _).alloc (Nat.le_refl _) _
 have hf1 : Nr (w.alloc (.cells (madeCells #[.slice none 0 0] n) 24)) w.heap.size w.heap.size n (bodyL f n 0) := by rw [← bodyL_zero]; exact Nr.made w _ n (by unfold maxLen; omega)
 obtain ⟨w1, hw1⟩ : ∃ v, v = w.alloc (.cells (madeCells #[.slice none 0 0] n) 24) := ⟨_, rfl⟩
 rw [← hw1] at hb1 hf1 ⊢
 clear hw1 hmk
 go_wp2_with fail
 go_loopw [13] (fun i wr => ∃ t : Nat, t ≤ n ∧ i = .int .i64 (t : Int) ∧ Nr wr w.heap.size w.heap.size n (bodyL f n t) ∧ Below w.heap.size w wr) (fun i _ => n - (intOf i).toNat)
 case atStart => exact ⟨0, by omega, rfl, hf1, hb1⟩
 case round =>
  obtain ⟨t, ht, rfl, hnr, hb⟩ := hrel
  have NR := Lib.hid hnr
  have HB := Lib.hid hb
  by_cases hlt : t < n
  ·have hti : (t : Int) < (n : Int) := by omega
   have hlk := (H.out.later hb).look t (by omega)
   clear hnr hb hf1 hb1
   cases hq : f t with
   | none =>
    rw [hq] at hlk
    have hlk : (Instr.lookup 79 (.map (some M)) (.int .i64 (t : Int)) true).run Tryz.prog wr = .ok (.tuple #[.agg (Sh.cs Sh.zero).toArray, .bool false]) wr := hlk
    have Hq := Lib.hid hq
    clear hq
    obtain ⟨w9, hw9⟩ : ∃ w9, w9 = wr.alloc (.cells (Sh.cs Sh.zero).toArray 97) := ⟨_, rfl⟩
    have hb9 : Below wr.heap.size wr w9 := by rw [hw9]; exact (Below.refl _ _).alloc (Nat.le_refl _) _
    have NR9 := Lib.hid (NR.out.later hb9)
    have HB9 := Lib.hid (HB.out.trans (hb9.mono HB.out.size))
    have Hw9 := Lib.hid hw9
    clear hb9 hw9
    go_wp2_with (first
     | (refine at_none11 ?_; refine wpList_store_shard (o := ⟨none, _, _, _, _, _⟩) rfl (.tmp 7) (.tmp 20) rfl wr Sh.zero rfl rfl ?_; rw [← Hw9.out]))
    go_roundw
    case rel => exact ⟨t + 1, by omega, by go_num, by rw [← bodyL_skip Hq.out]; exact NR9.out, HB9.out⟩
    case measure => simp [intOf]; omega
   | some s =>
    rw [hq] at hlk
    have hlk : (Instr.lookup 79 (.map (some M)) (.int .i64 (t : Int)) true).run Tryz.prog wr = .ok (.tuple #[.agg s.cs.toArray, .bool true]) wr := hlk
    have Hq := Lib.hid hq
    clear hq
    have hlen := (HOK.out t s Hq.out).body
    obtain ⟨w9, hw9⟩ : ∃ w9, w9 = wr.alloc (.cells s.cs.toArray 97) := ⟨_, rfl⟩
    have hb9 : Below wr.heap.size wr w9 := by rw [hw9]; exact (Below.refl _ _).alloc (Nat.le_refl _) _
    have X9 : ShB w9 wr.heap.size s := by rw [hw9]; exact ShB.new wr s
    have NR9 := Lib.hid (NR.out.later hb9)
    have HB9 := Lib.hid (HB.out.trans (hb9.mono HB.out.size))
    have Hw9 := Lib.hid hw9
    obtain ⟨⟨v, hv⟩, hz⟩ := NR9.out.cell hlt
    have hsl : Sl w9 1 (some ⟨wr.heap.size, 5, none⟩) s.body.length 44 (cells s.body) := by
     refine ⟨by rw [cells_length, Nat.mul_one], by omega, by decide, fun j u hu => ⟨wr.heap.size, 5, rfl, ?_⟩⟩
     have := X9.text j u (by rw [pad44_eq hlen]; exact hu)
     exact this
    have hbw := HB.out.size
    have hst := NR9.out.store hlt (r := s.body) hsl (fun b o _ e => by injection e with e; injection e with e _; have := NR.out.lt; omega)
    rw [bodyL_next Hq.out, hlen] at hst
    have ST := Lib.hid hst
    have HB10 := Lib.hid (HB9.out.setCell (p := ⟨w.heap.size, t, none⟩) (Nat.le_refl _) (.slice (some ⟨wr.heap.size, 5, none⟩) 44 44))
    clear hb9 hw9 hst hsl hbw hlen X9
    go_wp2_with (first
     | (refine at_none11 ?_; refine wpList_store_shard (o := ⟨none, _, _, _, _, _⟩) rfl (.tmp 7) (.tmp 20) rfl wr s rfl rfl ?_; rw [← Hw9.out]))
    go_roundw
    case rel => exact ⟨t + 1, by omega, by go_num, ST.out, HB10.out⟩
    case measure => simp [intOf]; omega
  ·obtain rfl : t = n := by omega
   clear hnr hb hf1 hb1
   go_wp2_with fail
   go_ret
   exact ⟨_, rfl, NR.out.gr, HB.out⟩
end
end Go.Proofs.YtajdholblmdnjaaGreatDoor

/-
  Contracts of package locate's nearest, Find and Close. Condition: the coder is one that New made, or nil.
-/
import Derived.Test.YtabcmjbcnmedhaaGreatDqi
namespace Go.Proofs.YtabcmjbcnmedhaaGreat
open Go.RowKit Go.Proofs
set_option linter.unusedVariables false

/-- Rows without bytes hold. -/
theorem Lev.zero_holds {k m : Nat} {rs : List (List UInt8)} (h : Lev (k + m) 0 rs) (hk : 1 ≤ k) : holdsB k m rs = true := by
  have hev := h.ev
  rw [Int.natCast_add] at hev
  rw [holdsB, hev, offL_none fun i hi => ?_]
  · rfl
  · have h1 := h.wid (k + i) (by omega)
    have h2 := h.wid 0 (by omega)
    have e1 : (shard k (rs.take k) (k + i)).length = 0 := by
      rw [shard_length, List.getD_eq_getElem?_getD, List.getElem?_take, if_pos (by omega), ← List.getD_eq_getElem?_getD, h2]
    rw [List.eq_nil_of_length_eq_zero e1, List.eq_nil_of_length_eq_zero h1]
/-- How many rows are unlike. -/
def offs (k m : Nat) (rs ds : List (List UInt8)) : Nat := (difL rs (ds ++ parL k ds m) (k + m)).length
/-- What nearest answers. -/
def RetNear (k m V q : Nat) (rs : List (List UInt8)) (w : World) (e : Ending) (w' : World) : Prop :=
  ((∃ b o c' ds, e = .returned (.slice (some ⟨b, o, none⟩) (k + m) c') ∧ Gr w' (some ⟨b, o, none⟩) (k + m) c' (ds ++ parL k ds m) ∧ Lev k V ds ∧ offs k m rs ds ≤ q) ∨
    (e = .returned (.slice none 0 0) ∧ ∀ ds, Lev k V ds → ¬ offs k m rs ds ≤ q)) ∧ Below w.heap.size w w'

set_option maxRecDepth 100000 in
set_option maxHeartbeats 6400000 in
theorem nearest_any (C k m F T V q : Nat) (A : Option Addr) (c : Nat) (rs : List (List UInt8)) (w : World) (h : Cod w C k m F T) (hg : Gr w A (k + m) c rs) (hl : Lev (k + m) V rs) (hV : V ≤ 1048576) (hq : q ≤ m) :
    Calls Tryz.prog 31 #[.pointer (some ⟨C, 0, none⟩), .slice A (k + m) c, .int .i64 (q : Int)] w (RetNear k m V q rs w) := by
  have hk1 := h.k1
  have hm1 := h.m1
  have h255 := h.n255
  have hrows := hl.rows_ok hV
  obtain ⟨n, hn⟩ : ∃ n, n = k + m := ⟨_, rfl⟩
  have hn2 : n ≤ 255 := by omega
  rw [← hn] at hg ⊢
  have H := Lib.hid h
  have HG := Lib.hid hg
  have HL := Lib.hid hl
  have Hn := Lib.hid hn
  have Hrows := Lib.hid hrows
  clear h hg hl hn hrows
  have hb1 : Below w.heap.size w ((w.alloc (.cells #[.pointer (some ⟨C, 0, none⟩)] 32)).alloc (.cells #[.slice A n c] 22)) := ((Below.refl _ _).alloc (Nat.le_refl _) _).alloc (by simp) _
  have hx4 := heap_alloc_new (w.alloc (.cells #[.pointer (some ⟨C, 0, none⟩)] 32)) (.cells #[.slice A n c] 22)
  have hx3 := (((Below.refl _ (w.alloc (.cells #[.pointer (some ⟨C, 0, none⟩)] 32))).alloc (Nat.le_refl _) (.cells #[.slice A n c] 22)).block w.heap.size (by simp)).trans (heap_alloc_new w (.cells #[.pointer (some ⟨C, 0, none⟩)] 32))
  rw [show (w.alloc (.cells #[.pointer (some ⟨C, 0, none⟩)] 32)).heap.size = w.heap.size + 1 by simp] at hx4
  go_enter Tryz.func31, Tryz.ntmps31
  go_upto_region 1 with (fail)
  obtain ⟨wa, hwa⟩ : ∃ x, x = (w.alloc (.cells #[.pointer (some ⟨C, 0, none⟩)] 32)).alloc (.cells #[.slice A n c] 22) := ⟨_, rfl⟩
  rw [← hwa] at hb1 hx3 hx4 ⊢
  obtain ⟨b4, hb4⟩ : ∃ x, x = w.heap.size + 1 := ⟨_, rfl⟩
  obtain ⟨b3, hb3⟩ : ∃ x, x = w.heap.size := ⟨_, rfl⟩
  rw [← hb4, ← hb3]
  rw [← hb4] at hx4
  rw [← hb3] at hx3
  have h34 : w.heap.size ≤ b3 ∧ w.heap.size ≤ b4 := by omega
  have d3 : wa.cell? ⟨b3, 0, none⟩ = some (.pointer (some ⟨C, 0, none⟩)) := by rw [cell_of_row _ _ _ _ _ _ hx3]; rfl
  have d4 : wa.cell? ⟨b4, 0, none⟩ = some (.slice A n c) := by rw [cell_of_row _ _ _ _ _ _ hx4]; rfl
  have Hx3 := Lib.hid hx3
  have Hx4 := Lib.hid hx4
  have Hb1 := Lib.hid hb1
  have hwz := hb1.size
  have hh := dholds_any C k m F T A n c rs wa (H.out.later hb1) (HG.out.later hb1) Hrows.out
  obtain ⟨x, hx⟩ : ∃ x, x = holdsB k m rs := ⟨_, rfl⟩
  rw [← hx] at hh
  have Hx := Lib.hid hx
  clear hwa hb4 hb3 hx3 hx4 hb1 hx
  go_wp2_with fail
  refine hh.mono ?_; clear hh; rintro e w1 ⟨rfl, hb⟩
  have Hb2 := Lib.hid (Hb1.out.trans (hb.mono hwz))
  have Hx31 := Lib.hid ((hb.block _ (block_lt Hx3.out)).trans Hx3.out)
  have Hx41 := Lib.hid ((hb.block _ (block_lt Hx4.out)).trans Hx4.out)
  have d31 : w1.cell? ⟨b3, 0, none⟩ = some (.pointer (some ⟨C, 0, none⟩)) := by rw [cell_of_row _ _ _ _ _ _ Hx31.out]; rfl
  have d41 : w1.cell? ⟨b4, 0, none⟩ = some (.slice A n c) := by rw [cell_of_row _ _ _ _ _ _ Hx41.out]; rfl
  have hw1 := Hb2.out.size
  clear hb d3 d4 Hx3 Hx4
  cases x
  · have hv : 0 < V := by
      rcases Nat.eq_zero_or_pos V with h0 | h0
      · subst h0
        have h1 := HL.out.zero_holds hk1
        rw [← Hx.out] at h1
        cases h1
      · exact h0
    have hh := narrowed_any C k m F T V A n c rs w1 (H.out.later Hb2.out) (HG.out.later Hb2.out) HL.out hv hV
    go_wp2_with fail
    refine hh.mono ?_; clear hh; rintro e w2 ⟨A7, c7, p, hp, rfl, hG7, hb⟩
    have hnew7 := heap_alloc_new w2 (.cells #[.slice A7 n c7] 22)
    have hb7 : Below w2.heap.size w2 (w2.alloc (.cells #[.slice A7 n c7] 22)) := (Below.refl _ _).alloc (Nat.le_refl _) _
    have Hnew7 := Lib.hid hnew7
    have Hb7 := Lib.hid hb7
    have Hb3 := Lib.hid (Hb2.out.trans (hb.mono hw1))
    have Hx32 := Lib.hid ((hb.block _ (block_lt Hx31.out)).trans Hx31.out)
    have Hx42 := Lib.hid ((hb.block _ (block_lt Hx41.out)).trans Hx41.out)
    have HG7 := Lib.hid hG7
    have hw2 := Hb3.out.size
    clear hnew7 hb7 hb hG7 d31 d41 Hx31 Hx41
    go_upto_region 4 with (fail)
    have hst : Nst (w2.alloc (.cells #[.slice A7 n c7] 22)) C k m F T V p b3 b4 w2.heap.size rs :=
      ⟨(H.out.later Hb3.out).later Hb7.out, (Hb7.out.block _ (block_lt Hx32.out)).trans Hx32.out, ⟨A, c, by rw [← Hn.out]; exact (Hb7.out.block _ (block_lt Hx42.out)).trans Hx42.out, by rw [← Hn.out]; exact (HG.out.later Hb3.out).later Hb7.out⟩, ⟨A7, c7, by rw [← Hn.out]; exact Hnew7.out, by rw [← Hn.out]; exact HG7.out.later Hb7.out⟩, HL.out, hv, hV, hp⟩
    obtain ⟨b7, hb7⟩ : ∃ x, x = w2.heap.size := ⟨_, rfl⟩
    obtain ⟨w3, hw3⟩ : ∃ x, x = w2.alloc (.cells #[.slice A7 n c7] 22) := ⟨_, rfl⟩
    rw [← hw3, ← hb7] at hst ⊢
    have hb3w := Hb3.out.trans (Hb7.out.mono hw2)
    rw [← hw3] at hb3w
    have Hst := Lib.hid hst
    have Hb4 := Lib.hid hb3w
    have hw3s := hb3w.size
    have hb8 : Below w3.heap.size w3 (w3.alloc (.cells #[.slice none 0 0] 22)) := (Below.refl _ _).alloc (Nat.le_refl _) _
    have hf8 : Fnd (w3.alloc (.cells #[.slice none 0 0] 22)) w3.heap.size (.slice none 0 0) := heap_alloc_new w3 _
    have hx3 := (hb8.block _ (block_lt hst.c3)).trans hst.c3
    have d3 : (w3.alloc (.cells #[.slice none 0 0] 22)).cell? ⟨b3, 0, none⟩ = some (.pointer (some ⟨C, 0, none⟩)) := by rw [cell_of_row _ _ _ _ _ _ hx3]; rfl
    have hcn := cn_any C k m F T _ (hst.cod.later hb8)
    rw [← Hn.out] at hcn
    have Hb8 := Lib.hid hb8
    have Hf8 := Lib.hid hf8
    clear hst hb3w hw3 hb7 hx3 hb8 hf8 Hx32 Hx42 Hnew7 Hb7
    go_wp2_with fail
    refine hcn.mono ?_; clear hcn; rintro e w5 ⟨rfl, hb5⟩
    have hbe := Hb8.out.trans (hb5.mono Hb8.out.size)
    have hes := eachSet_any C k m F T V p b3 b4 b7 w3.heap.size q rs w3 w5 Hst.out hbe (Nat.le_refl _) (Hf8.out.later hb5) hq
    rw [← Hn.out] at hes
    have Hbe := Lib.hid (Hb4.out.trans (hbe.mono hw3s))
    have hw5s := hbe.size
    clear hb5 hbe d3 Hf8 Hb8
    go_wp2_with fail
    refine hes.mono ?_; clear hes; rintro e w6 ⟨rfl, hR, hfr⟩
    have Hb6 := Lib.hid (Hbe.out.trans (hfr.below (by omega) (fun x e => by have e : x = w3.heap.size := e; omega) : Below w.heap.size w5 w6))
    clear hfr
    rcases hR with ⟨S, hS, b, o, c', ds, hF, hG, hd, ha⟩ | ⟨hF, hno⟩
    · have hcell := hF.cell
      rw [← Hn.out] at hcell
      have HG6 := Lib.hid hG
      have Hd := Lib.hid hd
      have Ha := Lib.hid ha
      have HS := Lib.hid hS
      clear hF hG hd ha hS
      go_wp2_with fail
      go_ret
      rw [Hn.out]
      exact ⟨.inl ⟨b, o, c', ds, rfl, HG6.out, Hd.out, set_near HL.out.len Hd.out HS.out.len Ha.out⟩, Hb6.out⟩
    · have hcell := hF.cell
      have Hno := Lib.hid hno
      clear hF hno
      go_wp2_with fail
      go_ret
      refine ⟨.inr ⟨rfl, fun ds hd hle => ?_⟩, Hb6.out⟩
      obtain ⟨S, hS, ha⟩ := near_set HL.out.len hd (by omega) hle
      exact Hno.out S hS ds hd ha
  · have hh := eachClone_any A n c rs w1 (HG.out.later Hb2.out) (by omega) Hrows.out
    have hsp := holds_split HL.out Hx.out.symm
    have Hsp := Lib.hid hsp
    clear hsp
    go_wp2_with fail
    refine hh.mono ?_; clear hh; rintro e w2 ⟨g, rfl, hG, hb⟩
    have HG2 := Lib.hid hG
    have Hb3 := Lib.hid (Hb2.out.trans (hb.mono hw1))
    clear hG hb
    go_wp2_with fail
    go_ret
    have hG := HG2.out
    rw [Hsp.out.2] at hG
    rw [Hn.out] at hG ⊢
    refine ⟨.inl ⟨g, 0, _, _, rfl, hG, Hsp.out.1, ?_⟩, Hb3.out⟩
    rw [offs, ← Hsp.out.2, show k + m = rs.length from HL.out.len.symm, difL_self]
    exact Nat.zero_le _
end Go.Proofs.YtabcmjbcnmedhaaGreat

/-
  Contracts of package decode's clone and fill. No condition but bounds.
-/
import Derived.Test.YtgoomiimlfdcmaaGreatDlg
namespace Go.Proofs.YtgoomiimlfdcmaaGreat
open Go.RowKit Go.Proofs
set_option linter.unusedVariables false

set_option maxRecDepth 20000 in
set_option maxHeartbeats 1600000 in
theorem dclone_any (A : Option Addr) (n c : Nat) (rs : List (List UInt8)) (w : World) (hg : Gr w A n c rs) (hW : ∀ r ∈ rs, r.length ≤ 1048576) (hn : n ≤ 1048576) :
    Calls Tryz.prog 51 #[.slice A n c] w fun e w' => ∃ (g : Nat) (cur : Array Value), e = .returned (.slice (some ⟨g, 0, none⟩) n n) ∧ Enc w g n cur rs w' ∧ g < w'.heap.size := by
  have hmk := makes_eq (n : Int) n rfl hn
  have Hg := Lib.hid hg; clear hg
  have HW := Lib.hid hW; clear hW
  go_enter Tryz.func51, Tryz.ntmps51
  go_wp2_with fail
  clear hmk
  go_loopw [11] (fun i wr => ∃ (k : Nat) (cur : Array Value), k ≤ n ∧ i = .int .i64 (k : Int) ∧ Enc w w.heap.size n cur (rs.take k) wr) (fun i _ => n - (intOf i).toNat)
  case atStart => exact ⟨0, _, by omega, rfl, (Below.refl _ _).alloc (Nat.le_refl _) _, Fil.made w n, Nat.le_refl _⟩
  case round =>
    obtain ⟨j, cur, hj, rfl, hE⟩ := hrel
    have E := Lib.hid hE; clear hE
    by_cases hlt : j < n
    · obtain ⟨b, o, rfl, hc⟩ := (Hg.out.later E.out.bel).at_ (by omega)
      obtain ⟨Ar, cr, hcr, hsr⟩ := hc j _ (Hg.out.get hlt)
      have hWj : (rs.getD j []).length ≤ 1048576 := HW.out _ (List.mem_of_getElem? (Hg.out.get hlt))
      have hjl : j < rs.length := by rw [Hg.out.len]; exact hlt
      have hnext : rs.take j ++ [rs.getD j []] = rs.take (j + 1) := by
        rw [← List.take_append_getElem hjl]
        simp [hjl]
      obtain ⟨r, hr⟩ : ∃ r, r = rs.getD j [] := ⟨_, rfl⟩
      rw [← hr] at hcr hsr hWj hnext
      have Hnext := Lib.hid hnext
      clear hr hc hnext
      have hcl := clone_any Ar r.length cr r wr hsr hWj
      clear hsr
      go_wp2_with fail
      refine hcl.mono ?_; clear hcl; rintro e w3 ⟨Ac, nc, cc, rfl, hsc, hb3, hmc⟩
      have hnc : nc = r.length := by
        have := hsc.len
        rw [cells_length] at this
        omega
      subst hnc
      have E3 := Lib.hid (E.out.later hb3)
      have hgl : w.heap.size < wr.heap.size := block_lt E.out.fil.row
      have Hsc := Lib.hid hsc
      have hA : ∀ b o, 0 < r.length → Ac = some ⟨b, o, none⟩ → b ≠ w.heap.size := fun b o hn e => by
        obtain ⟨g', cur', e', hg', _⟩ := hmc hn
        rw [e] at e'; injection e' with e'; injection e' with e' _
        omega
      have HA := Lib.hid hA
      obtain ⟨v0, hv0⟩ := E3.out.fil.has hlt
      have hfz := E3.out.fil.free j
      clear hsc hmc hb3 hcr hA E
      go_wp2_with fail
      have hf := Fr.setCell (S := fun k => k = w.heap.size) (Fr.refl _ w3) (p := ⟨w.heap.size, j, none⟩) (.inr rfl) (.slice Ac r.length cc)
      have hst := E3.out.store (k := j) (by rw [List.length_take]; omega) hlt hf (heap_setCell_same _ w.heap.size j _ _ (.slice Ac r.length cc) E3.out.fil.row) Hsc.out HA.out
      rw [Hnext.out] at hst
      have Hst := Lib.hid hst
      clear hf hst hv0 hfz
      go_roundw
      case rel => exact ⟨j + 1, _, by omega, by go_num, Hst.out⟩
      case measure => simp [intOf]; omega
    · obtain rfl : j = n := by omega
      go_wp2_with fail
      go_ret
      have := E.out
      rw [List.take_of_length_le (by rw [Hg.out.len]; exact Nat.le_refl _)] at this
      exact ⟨_, cur, rfl, this, block_lt this.fil.row⟩

/-- Rows, of the first j of which those without bytes are made anew. -/
def fillL (rs : List (List UInt8)) (mk : Nat → List UInt8) (j : Nat) : List (List UInt8) := (List.range rs.length).map fun i => if i < j ∧ (rs.getD i []).length = 0 then mk i else rs.getD i []
theorem fillL_length (rs : List (List UInt8)) (mk : Nat → List UInt8) (j : Nat) : (fillL rs mk j).length = rs.length := by simp [fillL]
theorem fillL_get (rs : List (List UInt8)) (mk : Nat → List UInt8) (j i : Nat) (h : i < rs.length) : (fillL rs mk j)[i]? = some (if i < j ∧ (rs.getD i []).length = 0 then mk i else rs.getD i []) := by simp [fillL, h]
theorem fillL_zero (rs : List (List UInt8)) (mk : Nat → List UInt8) : fillL rs mk 0 = rs := by
  apply List.ext_getElem?
  intro i
  by_cases h : i < rs.length
  · rw [fillL_get _ _ _ _ h, if_neg (by omega)]
    simp [h]
  · rw [List.getElem?_eq_none (by rw [fillL_length]; omega), List.getElem?_eq_none (by omega)]
theorem fillL_skip (rs : List (List UInt8)) (mk : Nat → List UInt8) (j : Nat) (h : (rs.getD j []).length ≠ 0) : fillL rs mk (j + 1) = fillL rs mk j := by
  apply List.ext_getElem?
  intro i
  by_cases hi : i < rs.length
  · rw [fillL_get _ _ _ _ hi, fillL_get _ _ _ _ hi]
    by_cases hij : i = j
    · subst hij
      rw [if_neg (fun h' => h h'.2), if_neg (fun h' => h h'.2)]
    · have : (i < j + 1) = (i < j) := by apply propext; omega
      simp only [this]
  · rw [List.getElem?_eq_none (by rw [fillL_length]; omega), List.getElem?_eq_none (by rw [fillL_length]; omega)]
theorem fillL_next (rs : List (List UInt8)) (mk : Nat → List UInt8) (j : Nat) (h : (rs.getD j []).length = 0) : (fillL rs mk j).set j (mk j) = fillL rs mk (j + 1) := by
  apply List.ext_getElem?
  intro i
  by_cases hi : i < rs.length
  · rw [List.getElem?_set, fillL_get _ _ _ _ hi, fillL_get _ _ _ _ hi]
    by_cases hij : j = i
    · subst hij
      rw [if_pos rfl, if_pos (by rw [fillL_length]; exact hi), if_pos ⟨by omega, h⟩]
    · have : (i < j + 1) = (i < j) := by apply propext; omega
      rw [if_neg hij]
      simp only [this]
  · rw [List.getElem?_eq_none (by rw [List.length_set, fillL_length]; omega), List.getElem?_eq_none (by rw [fillL_length]; omega)]
theorem fillL_none (rs : List (List UInt8)) (mk : Nat → List UInt8) (h : ∀ i, i < rs.length → (rs.getD i []).length ≠ 0) (j : Nat) : fillL rs mk j = rs := by
  apply List.ext_getElem?
  intro i
  by_cases hi : i < rs.length
  · rw [fillL_get _ _ _ _ hi, if_neg (fun h' => h i hi h'.2)]
    simp [hi]
  · rw [List.getElem?_eq_none (by rw [fillL_length]; omega), List.getElem?_eq_none (by omega)]

theorem Fil.put {w w' : World} {g m : Nat} {cur : Array Value} {rs : List (List UInt8)} (h : Fil w g m cur rs) (hf : Fr (fun k => k = g) w w') {j : Nat} (hj : j < m) {A : Option Addr} {c : Nat} {r : List UInt8} (hg : w'.heap[g]? = some (.cells (cur.setIfInBounds j (.slice A r.length c)) 39 (0, 0))) (hs : Sl w' 1 A r.length c (cells r)) (hA : ∀ b o, 0 < r.length → A = some ⟨b, o, none⟩ → b ≠ g) :
    Fil w' g m (cur.setIfInBounds j (.slice A r.length c)) (rs.set j r) := by
  refine ⟨hg, by rw [Array.size_setIfInBounds]; exact h.size, by rw [List.length_set]; exact h.le, fun i x hi => ?_⟩
  rw [List.getElem?_set] at hi
  split at hi
  · rename_i hij
    subst hij
    split at hi
    · injection hi with hi
      subst hi
      exact ⟨A, c, by rw [Array.getElem?_setIfInBounds, if_pos rfl, if_pos (by rw [h.size]; exact hj)], hs, hA⟩
    · cases hi
  · rename_i hij
    obtain ⟨A', c', h1, h2, h3⟩ := h.rows i x hi
    exact ⟨A', c', by rw [Array.getElem?_setIfInBounds, if_neg hij]; exact h1, h2.fr hf (fun b o hn e hb => h3 b o hn e hb), h3⟩

set_option maxRecDepth 20000 in
set_option maxHeartbeats 1600000 in
theorem dfill_any (g n gf : Nat) (cur : Array Value) (rs : List (List UInt8)) (caps : Array Value) (mk : Nat → List UInt8) (w : World) (h : Fil w g n cur rs) (hl : rs.length = n) (hn : n ≤ 1048576)
    (eg : ∀ args w, (callFunc gf args).run Tryz.prog w = .ok (.enter gf args) w) (ha : ∀ (W : World) (x : Nat), x < n → Fr (fun k => k = g) w W → Calls Tryz.prog gf (#[.int .i64 (x : Int)] ++ caps) W (RetMine W.heap.size W (mk x))) :
    Calls Tryz.prog 52 #[.slice (some ⟨g, 0, none⟩) n n, .func (.func gf) #[] caps] w fun e w' => e = .returned (.tuple #[]) ∧ Fr (fun k => k = g) w w' ∧ ∃ cur', Fil w' g n cur' (fillL rs mk n) := by
  have hgl := block_lt h.row
  have H := Lib.hid h; clear h
  have Ha := Lib.hid ha; clear ha
  have Hl := Lib.hid hl; clear hl
  go_enter Tryz.func52, Tryz.ntmps52
  go_wp2_with fail
  go_loopw [8] (fun i wr => ∃ (k : Nat) (cur : Array Value), k ≤ n ∧ i = .int .i64 (k : Int) ∧ Fil wr g n cur (fillL rs mk k) ∧ Fr (fun k => k = g) w wr) (fun i _ => n - (intOf i).toNat)
  case atStart => exact ⟨0, cur, by omega, rfl, by rw [fillL_zero]; exact H.out, Fr.refl _ _⟩
  case round =>
    obtain ⟨j, cu, hj, rfl, hF, hfr⟩ := hrel
    have F := Lib.hid hF; clear hF
    have Hfr := Lib.hid hfr
    have hszr := hfr.size
    clear hfr
    by_cases hlt : j < n
    · have hget := fillL_get rs mk j j (by rw [Hl.out]; exact hlt)
      rw [if_neg (by omega)] at hget
      obtain ⟨Ar, cr, h1, h2, h3⟩ := F.out.rows j _ hget
      have hcell : wr.cell? ⟨g, j, none⟩ = some (.slice Ar (rs.getD j []).length cr) := by rw [cell_of_row _ _ _ _ _ _ F.out.row]; exact h1
      obtain ⟨L, hL⟩ : ∃ L, L = (rs.getD j []).length := ⟨_, rfl⟩
      rw [← hL] at hcell
      have HL := Lib.hid hL
      have hlim := h2.lim
      rw [← hL] at hlim
      unfold maxLen at hlim
      clear h1 h2 h3 hget hL
      by_cases hz : L = 0
      · have hzi : ((L : Int) == 0) = true := by simp [hz]
        have hnext := fillL_next rs mk j (by rw [← HL.out]; exact hz)
        have Hnext := Lib.hid hnext
        have hh := Ha.out wr j hlt Hfr.out
        clear hnext hz
        go_wp2_with fail
        refine hh.mono ?_; clear hh; rintro e w3 ⟨Ac, nc, cc, rfl, hsc, hb3, hmc⟩
        obtain ⟨r, hr⟩ : ∃ r, r = mk j := ⟨_, rfl⟩
        have hnc : nc = r.length := by
          have := hsc.len
          rw [cells_length] at this
          rw [hr]
          omega
        rw [← hr] at hsc hmc Hnext
        subst hnc
        have F3 := Lib.hid (F.out.later hb3)
        have Hfr3 := Lib.hid (Hfr.out.trans (Fr.of_below hb3))
        have Hsc := Lib.hid hsc
        have hA : ∀ b o, 0 < r.length → Ac = some ⟨b, o, none⟩ → b ≠ g := fun b o hn e => by
          obtain ⟨g', cur', e', hg', _⟩ := hmc hn
          rw [e] at e'; injection e' with e'; injection e' with e' _
          omega
        have HA := Lib.hid hA
        obtain ⟨v0, hv0⟩ := F3.out.has hlt
        have hfz := F3.out.free j
        clear hsc hmc hb3 hA hr hcell
        go_wp2_with fail
        have hf := Fr.setCell (S := fun k => k = g) (Fr.refl _ w3) (p := ⟨g, j, none⟩) (.inr rfl) (.slice Ac r.length cc)
        have hst := F3.out.put hf hlt (heap_setCell_same _ g j _ _ (.slice Ac r.length cc) F3.out.row) (Hsc.out.fr hf (fun b o hn e hb => HA.out b o hn e hb)) HA.out
        rw [Hnext.out] at hst
        have Hst := Lib.hid hst
        have Hff := Lib.hid (Hfr3.out.trans hf)
        clear hf hst hv0 hfz
        go_roundw
        case rel => exact ⟨j + 1, _, by omega, by go_num, Hst.out, Hff.out⟩
        case measure => simp [intOf]; omega
      · have hzi : ((L : Int) == 0) = false := by simp; omega
        have hnext := fillL_skip rs mk j (by rw [← HL.out]; exact hz)
        have Hnext := Lib.hid hnext
        clear hnext hz
        go_wp2_with fail
        go_roundw
        case rel => exact ⟨j + 1, cu, by omega, by go_num, by rw [Hnext.out]; exact F.out, Hfr.out⟩
        case measure => simp [intOf]; omega
    · obtain rfl : j = n := by omega
      go_wp2_with fail
      go_end0
      exact ⟨rfl, Hfr.out, cu, F.out⟩
end Go.Proofs.YtgoomiimlfdcmaaGreat

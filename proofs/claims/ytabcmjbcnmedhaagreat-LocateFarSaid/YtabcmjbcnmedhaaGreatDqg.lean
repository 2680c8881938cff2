/-
  The contract of package locate's narrowed: rows are cut to one byte each, of one place. Condition: the coder is one that New made; the rows are of one length, with bytes.
-/
import Derived.Test.YtabcmjbcnmedhaaGreatDqf
import Derived.Deep.LoopGhost
namespace Go.Proofs.YtabcmjbcnmedhaaGreat
open Go.RowKit Go.Proofs
set_option linter.unusedVariables false

theorem Sl.headB {w : World} {n c h : Nat} {A : Option Addr} {l : List UInt8} (hs : Sl w 1 A n c (cells l)) (hh : h ≤ n) : Sl w 1 A h c (cells (l.take h)) := by
  have hl := hs.len
  rw [cells_length, Nat.mul_one] at hl
  refine ⟨by rw [cells_length, List.length_take, hl, Nat.mul_one]; omega, by have := hs.cap; omega, hs.top, fun j u hu => hs.cell j u ?_⟩
  rw [cells_take, List.getElem?_take] at hu
  split at hu
  · exact hu
  · cases hu
theorem Sl.tailB {w : World} {n c h : Nat} {A : Option Addr} {l : List UInt8} (hs : Sl w 1 A n c (cells l)) (hh : h ≤ n) : Sl w 1 (A.map (·.add h)) (n - h) (c - h) (cells (l.drop h)) := by
  have hl := hs.len
  rw [cells_length, Nat.mul_one] at hl
  have := hs.sub1 h n (c - h) hh (Nat.le_refl _) (by have := hs.cap; omega) (by have := hs.top; omega)
  rwa [List.take_of_length_le (by rw [List.length_drop]; omega)] at this
theorem head_row (b h : Nat) (A : Option Addr) (n c g : Nat) (l : List UInt8) (W : World) (hb : W.cell? ⟨b, 0, none⟩ = some (.int .i64 (h : Int))) (hs : Sl W 1 A n c (cells l)) (hh : h ≤ n) (hg : ∀ b o, 0 < n → A = some ⟨b, o, none⟩ → b < g) :
    Calls Tryz.prog 59 #[.slice A n c, .pointer (some ⟨b, 0, none⟩)] W (RetRow g W (l.take h)) := by
  refine (head1_any b h A n c W hb hh hs.cap).mono ?_
  rintro e w' ⟨rfl, rfl⟩
  exact ⟨A, h, c, rfl, hs.headB hh, Below.refl _ _, fun b o h0 e => by have := hg b o (by omega) e; omega⟩
theorem tail_row (b h : Nat) (A : Option Addr) (n c g : Nat) (l : List UInt8) (W : World) (hb : W.cell? ⟨b, 0, none⟩ = some (.int .i64 (h : Int))) (hs : Sl W 1 A n c (cells l)) (hh : h < n) (hg : ∀ b o, 0 < n → A = some ⟨b, o, none⟩ → b < g) :
    Calls Tryz.prog 60 #[.slice A n c, .pointer (some ⟨b, 0, none⟩)] W (RetRow g W (l.drop h)) := by
  refine (tail1_any b h A n c W hb hh hs.cap).mono ?_
  rintro e w' ⟨rfl, rfl⟩
  refine ⟨_, _, _, rfl, hs.tailB (by omega), Below.refl _ _, fun b o h0 e => ?_⟩
  obtain ⟨b1, o1, rfl, -⟩ := hs.at_ (k := 0) (by omega)
  have e : (⟨b1, o1, none⟩ : Addr).add h = ⟨b, o, none⟩ := by simpa using e
  have := hg b1 o1 (by omega) rfl
  have e2 : ((⟨b1, o1, none⟩ : Addr).add h).block = b1 := by unfold Addr.add; split <;> rfl
  rw [e] at e2
  have e2 : b = b1 := e2
  omega

set_option maxRecDepth 100000 in
set_option maxHeartbeats 3200000 in
theorem narrowed_any (C k m F T V : Nat) (A : Option Addr) (n c : Nat) (rs : List (List UInt8)) (w : World) (h : Cod w C k m F T) (hg : Gr w A n c rs) (hl : Lev (k + m) V rs) (hv : 0 < V) (hV : V ≤ 1048576) :
    Calls Tryz.prog 43 #[.pointer (some ⟨C, 0, none⟩), .slice A n c] w fun e w' => ∃ A' c' p, p < V ∧ e = .returned (.slice A' n c') ∧ Gr w' A' n c' (colL rs p) ∧ Below w.heap.size w w' := by
  have hnk : n = k + m := by rw [← hg.len, hl.len]
  have h1 := h.k1
  have h3 := h.n255
  have hn0 : 0 < n := by omega
  have h255 : n ≤ 255 := by omega
  have H := Lib.hid h
  have HG := Lib.hid hg
  have HL := Lib.hid hl
  have Hnk := Lib.hid hnk
  have e59 : ∀ args w, (callFunc 59 args).run Tryz.prog w = .ok (.enter 59 args) w := enters_of Tryz.func59 (by kernel_rfl) rfl
  have e60 : ∀ args w, (callFunc 60 args).run Tryz.prog w = .ok (.enter 60 args) w := enters_of Tryz.func60 (by kernel_rfl) rfl
  have E59 := Lib.hid e59
  have E60 := Lib.hid e60
  clear h hg hl hnk h1 h3 e59 e60
  go_enter Tryz.func43, Tryz.ntmps43
  go_wp2_with fail
  go_loopg [1] V (fun gk v wr => ∃ (lo : Nat) (A1 : Option Addr) (c1 : Nat), lo + gk ≤ V ∧ 0 < gk ∧ v = .slice A1 n c1 ∧ Gr wr A1 n c1 (partL rs lo gk) ∧ Below w.heap.size w wr)
  case atStart => exact ⟨0, A, c, by omega, hv, rfl, by rw [partL_all HL.out]; exact HG.out, Below.refl _ _⟩
  case round =>
    obtain ⟨lo, A1, c1, hlo, hg0, rfl, hG, hb⟩ := hrel
    have hlv := partL_lev HL.out hlo
    have hrows := hlv.rows_ok (by omega)
    obtain ⟨b0, o0, rfl, hc⟩ := hG.at_ hn0
    obtain ⟨Ar, cr, hcr, -⟩ := hc 0 _ (hG.get hn0)
    rw [hlv.wid 0 (by rw [← Hnk.out]; exact hn0), Nat.add_zero] at hcr
    have G0 := Lib.hid hG
    have Hb := Lib.hid hb
    have hwin := hb.size
    have Hlv := Lib.hid hlv
    have Hrows := Lib.hid hrows
    clear hc hG hb hlv hrows
    by_cases hone : 1 < gk
    · have hone' : (1 : Int) < (gk : Int) := by omega
      obtain ⟨hf, hhf⟩ : ∃ x, x = gk / 2 := ⟨_, rfl⟩
      have hdiv : (gk : Int) / 2 = (hf : Int) := by omega
      have hf0 : 0 < hf := by omega
      have hf1 : hf < gk := by omega
      clear hhf
      have hb0 : Below wr.heap.size wr (wr.alloc (.cells #[.int .i64 (hf : Int)] 3)) := (Below.refl _ _).alloc (Nat.le_refl _) _
      have hnew := heap_alloc_new wr (.cells #[.int .i64 (hf : Int)] 3)
      have Hnew := Lib.hid hnew
      have Hb0 := Lib.hid hb0
      clear hnew hb0
      go_wp2_with fail
      have hgA := G0.out.later Hb0.out
      have hbA := Hb.out.trans (Hb0.out.mono hwin)
      have hszA : (wr.alloc (.cells #[.int .i64 (hf : Int)] 3)).heap.size = wr.heap.size + 1 := by simp
      obtain ⟨wa, hwa⟩ : ∃ x, x = wr.alloc (.cells #[.int .i64 (hf : Int)] 3) := ⟨_, rfl⟩
      rw [← hwa] at hgA hbA hszA Hnew ⊢
      have hcA : wa.cell? ⟨wr.heap.size, 0, none⟩ = some (.int .i64 (hf : Int)) := cell_of_one Hnew.out
      have hea := leach_any 59 #[.pointer (some ⟨wr.heap.size, 0, none⟩)] (fun r => r.take hf) (some ⟨b0, o0, none⟩) n c1 (partL rs lo gk) wa hgA (by omega) E59.out (fun W r A1 c1 hr hbW hlt hs hlow => by
        have hrl : r.length = gk := by
          obtain ⟨i, hi, rfl⟩ := List.mem_iff_getElem.1 hr
          have := Hlv.out.wid i (by rw [← Hlv.out.len]; exact hi)
          rwa [List.getD_eq_getElem?_getD, List.getElem?_eq_getElem hi] at this
        exact head_row wr.heap.size hf A1 r.length c1 wa.heap.size r W ((hbW.cell (p := ⟨wr.heap.size, 0, none⟩) (by show wr.heap.size < _; omega)).trans hcA) hs (by omega) (fun b o h0 e => hlow b o h0 e))
      have hlo2 := part_lo (rs := rs) lo gk hf (by omega)
      rw [hlo2] at hea
      have hlvh : Lev (k + m) hf (partL rs lo hf) := partL_lev HL.out (by omega)
      have hrh := hlvh.rows_ok (by omega)
      have HcA := Lib.hid hcA
      have HgA := Lib.hid hgA
      have HbA := Lib.hid hbA
      have HszA := Lib.hid hszA
      have Hrh := Lib.hid hrh
      clear hcA hgA hbA hszA hlo2 hlvh hrh hwa hcr hdiv
      refine hea.mono ?_; clear hea; rintro e w2 ⟨g2, rfl, hG2, hb2⟩
      have hwa2 := HbA.out.size
      have G2 := Lib.hid hG2
      have Hb2 := Lib.hid (HbA.out.trans (hb2.mono hwa2))
      have Hba2 := Lib.hid hb2
      clear hG2 hb2
      go_wp2_with fail
      have hh := dholds_any C k m F T (some ⟨g2, 0, none⟩) n n (partL rs lo hf) w2 (H.out.later Hb2.out) G2.out Hrh.out
      obtain ⟨x, hx⟩ : ∃ x, x = holdsB k m (partL rs lo hf) := ⟨_, rfl⟩
      rw [← hx] at hh
      clear hx
      refine hh.mono ?_; clear hh; rintro e w3 ⟨rfl, hb3⟩
      have hw2 := Hb2.out.size
      have G3 := Lib.hid (G2.out.later hb3)
      have Hb3 := Lib.hid (Hb2.out.trans (hb3.mono hw2))
      have hba3 := Hba2.out.trans (hb3.mono Hba2.out.size)
      have HG3 := Lib.hid (HgA.out.later hba3)
      have Hc3 := Lib.hid ((hba3.cell (p := ⟨wr.heap.size, 0, none⟩) (by show wr.heap.size < _; have := HszA.out; omega)).trans HcA.out)
      have hlt3 := Hba2.out.size
      have hlt4 := hb3.size
      clear hb3 hba3 G2 HgA HcA
      cases x
      · go_wp2_with fail
        go_roundg hf
        case measure => omega
        case rel => exact ⟨lo, some ⟨g2, 0, none⟩, n, by omega, hf0, rfl, G3.out, Hb3.out⟩
      · have hea := leach_any 60 #[.pointer (some ⟨wr.heap.size, 0, none⟩)] (fun r => r.drop hf) (some ⟨b0, o0, none⟩) n c1 (partL rs lo gk) w3 HG3.out (by omega) E60.out (fun W r A1 c1 hr hbW hlt hs hlow => by
          have hrl : r.length = gk := by
            obtain ⟨i, hi, rfl⟩ := List.mem_iff_getElem.1 hr
            have := Hlv.out.wid i (by rw [← Hlv.out.len]; exact hi)
            rwa [List.getD_eq_getElem?_getD, List.getElem?_eq_getElem hi] at this
          exact tail_row wr.heap.size hf A1 r.length c1 w3.heap.size r W ((hbW.cell (p := ⟨wr.heap.size, 0, none⟩) (by show wr.heap.size < _; have := HszA.out; omega)).trans Hc3.out) hs (by omega) (fun b o h0 e => hlow b o h0 e))
        rw [part_hi (rs := rs) lo gk hf (by omega)] at hea
        go_wp2_with fail
        refine hea.mono ?_; clear hea; rintro e w4 ⟨g4, rfl, hG4, hb4⟩
        have G4 := Lib.hid hG4
        have Hb4 := Lib.hid (Hb3.out.trans (hb4.mono Hb3.out.size))
        clear hG4 hb4
        go_wp2_with fail
        go_roundg (gk - hf)
        case measure => omega
        case rel => exact ⟨lo + hf, some ⟨g4, 0, none⟩, n, by omega, by omega, rfl, G4.out, Hb4.out⟩
    · obtain rfl : gk = 1 := by omega
      go_wp2_with fail
      go_ret
      have hG := G0.out
      rw [partL_col HL.out (by omega)] at hG
      exact ⟨_, _, lo, by omega, rfl, hG, Hb.out⟩
end Go.Proofs.YtabcmjbcnmedhaaGreat

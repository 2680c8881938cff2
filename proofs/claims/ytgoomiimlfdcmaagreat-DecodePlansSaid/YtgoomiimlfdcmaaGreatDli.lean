/-
  Contracts of package decode's restore, Data and All. Condition: the coder is one that New made, or none.
-/
import Derived.Test.YtgoomiimlfdcmaaGreatDlh
namespace Go.Proofs.YtgoomiimlfdcmaaGreat
open Go.RowKit Go.Proofs
set_option linter.unusedVariables false

theorem take_getD {l : List Nat} {k a : Nat} (h : a < k) : (l.take k).getD a 0 = l.getD a 0 := by
  rw [List.getD_eq_getElem?_getD, List.getElem?_take, if_pos h, List.getD_eq_getElem?_getD]
theorem thereL_sorted (rs : List (List UInt8)) (j : Nat) : (thereL rs j).Pairwise (· < ·) := List.Pairwise.filter _ List.pairwise_lt_range
theorem thereL_mono (rs : List (List UInt8)) (j : Nat) {a b : Nat} (h : a < b) (hb : b < (thereL rs j).length) : (thereL rs j).getD a 0 < (thereL rs j).getD b 0 := by
  have := List.pairwise_iff_getElem.1 (thereL_sorted rs j) a b (by omega) hb h
  simpa [show a < (thereL rs j).length by omega, hb] using this
theorem thereL_pos {rs : List (List UInt8)} {j a : Nat} (h : a < (thereL rs j).length) : 0 < (rs.getD ((thereL rs j).getD a 0) []).length := by
  have hm : (thereL rs j)[a] ∈ (List.range j).filter (fun i => decide (0 < (rs.getD i []).length)) := List.getElem_mem h
  rw [List.mem_filter] at hm
  rw [show (thereL rs j).getD a 0 = (thereL rs j)[a] from by simp [h]]
  exact of_decide_eq_true hm.2
theorem there_all {rs : List (List UInt8)} {j i : Nat} (h : j ≤ (thereL rs j).length) (hi : i < j) : (rs.getD i []).length ≠ 0 := by
  intro h0
  have e : (thereL rs j).length = (List.range j).length := by
    have := thereL_le rs j
    rw [List.length_range]
    omega
  have := (List.length_filter_eq_length_iff.1 e) i (List.mem_range.2 hi)
  rw [h0] at this
  exact absurd this (by decide)
theorem Gr.take {w : World} {A : Option Addr} {n c cnt : Nat} {rs : List (List UInt8)} (h : Gr w A n c rs) (hc : cnt ≤ n) : Gr w A cnt c (rs.take cnt) := by
  obtain ⟨vs, hs, hr⟩ := h.ex
  have hl := hs.len
  have hcap := hs.cap
  refine ⟨⟨vs.take cnt, ⟨by rw [List.length_take]; omega, by omega, hs.top, fun j u hu => ?_⟩, fun i r hi => ?_⟩, by rw [List.length_take, h.len]; omega⟩
  · rw [List.getElem?_take] at hu
    split at hu
    · exact hs.cell j u hu
    · cases hu
  · rw [List.getElem?_take] at hi
    split at hi
    · rename_i hlt
      obtain ⟨A', c', h1, h2⟩ := hr i r hi
      exact ⟨A', c', by rw [List.getElem?_take, if_pos hlt]; exact h1, h2⟩
    · cases hi
theorem sl_takeN {w : World} {A : Option Addr} {q c k : Nat} {t : List Nat} (h : Sl w 1 A q c (ncells t)) (hk : k ≤ q) : Sl w 1 A k c (ncells (t.take k)) := by
  have hl := h.len
  rw [ncells_length] at hl
  have hcap := h.cap
  refine ⟨by rw [ncells_length, List.length_take]; omega, by omega, h.top, fun j u hu => ?_⟩
  have e : ncells (t.take k) = (ncells t).take k := by simp [ncells, List.map_take]
  rw [e, List.getElem?_take] at hu
  split at hu
  · exact h.cell j u hu
  · cases hu

set_option maxRecDepth 20000 in
set_option maxHeartbeats 3200000 in
theorem restore_any (C k m F T cnt : Nat) (A : Option Addr) (n c : Nat) (rs : List (List UInt8)) (w : World) (h : Cod w C k m F T) (hg : Gr w A n c rs) (hW : ∀ r ∈ rs, r.length ≤ 1048576) (hn : n ≤ 1048576) (hcnt : cnt ≤ k + m) :
    Calls Tryz.prog 29 #[.pointer (some ⟨C, 0, none⟩), .slice A n c, .int .i64 (cnt : Int)] w fun e w' =>
      ((rightX k m rs ≠ 0 ∧ e = .returned (.tuple #[.slice none 0 0, .int .i64 (rightX k m rs)])) ∨
        (rightX k m rs = 0 ∧ ∃ (A' : Option Addr) (c' : Nat) (X : Mx), Alike k k (mm k X (facM k ((thereL rs n).take k))) one ∧ e = .returned (.tuple #[.slice A' cnt c', .int .i64 0]) ∧
          Gr w' A' cnt c' (fillL (rs.take cnt) (makeL k X rs ((thereL rs n).take k) (rs.getD ((thereL rs n).getD 0 0) []).length) cnt))) ∧ Below w.heap.size w w' := by
  have h1 := h.k1
  have h3 := h.n255
  have hlen := hg.len
  obtain ⟨q, hq⟩ : ∃ q, q = (thereL rs n).length := ⟨_, rfl⟩
  have hqn : q ≤ n := by rw [hq]; exact thereL_le _ _
  have H := Lib.hid h; clear h
  have Hg := Lib.hid hg; clear hg
  have HW := Lib.hid hW; clear hW
  have Hlen := Lib.hid hlen; clear hlen
  have Hq := Lib.hid hq; clear hq
  by_cases hnk : n = k + m
  · have hz : ((n : Int) != (k : Int) + (m : Int)) = false := by simp; omega
    have hni : (n : Int) = (k : Int) + (m : Int) := by omega
    have Hnk := Lib.hid hnk
    have hcn : cnt ≤ n := by omega
    clear hnk hni
    by_cases hlv : levelT rs = true
    · have Hlv := Lib.hid hlv
      by_cases hqk : q < k
      · have hr : rightX k m rs = 60 := by rw [rightX, if_neg (by rw [Hlen.out, Hnk.out]; simp), if_neg (by rw [Hlv.out]; decide), Hlen.out, ← Hq.out, if_pos hqk]
        have Hr := Lib.hid hr
        have hqki : (q : Int) < (k : Int) := by omega
        clear hr hlv
        go_enter Tryz.func29, Tryz.ntmps29
        go_wp2_with fail
        refine (dmade_any C k m F T _ H.out).mono ?_; rintro e w0 ⟨rfl, rfl⟩
        go_wp2_with fail
        have hh := dthere_any A n c rs w0 Hg.out (by omega)
        refine hh.mono ?_; clear hh; rintro e w1 ⟨⟨B, q', d, rfl, hs1⟩, hb1⟩
        obtain rfl : q' = q := by
          have := hs1.len
          rw [ncells_length] at this
          rw [Hq.out]
          omega
        have Hs1 := Lib.hid hs1
        have Hb1 := Lib.hid hb1
        have hz1 := hb1.size
        clear hs1 hb1
        go_wp2_with fail
        refine (cn_any C k m F T _ (H.out.later Hb1.out)).mono ?_; rintro e w2 ⟨rfl, hb2⟩
        have Hs2 := Lib.hid (Hs1.out.below hb2 (Nat.le_refl _))
        have Hb2 := Lib.hid (Hb1.out.trans (hb2.mono hz1))
        have hz2 := Hb2.out.size
        clear hb2
        go_wp2_with fail
        have hh := dlevel_any A n c rs B q' d w2 (Hg.out.later Hb2.out) Hs2.out
        rw [Hlv.out] at hh
        refine hh.mono ?_; clear hh; rintro e w3 ⟨rfl, hb3⟩
        have Hs3 := Lib.hid (Hs2.out.below hb3 (Nat.le_refl _))
        have Hb3 := Lib.hid (Hb2.out.trans (hb3.mono hz2))
        have hz3 := Hb3.out.size
        clear hb3
        go_wp2_with fail
        refine (ck_any C k m F T _ (H.out.later Hb3.out)).mono ?_; rintro e w4 ⟨rfl, rfl⟩
        go_wp2_with fail
        go_ret2
        exact ⟨.inl ⟨by rw [Hr.out]; decide, by rw [Hr.out]; rfl⟩, Hb3.out⟩
      · have hr : rightX k m rs = 0 := by rw [rightX, if_neg (by rw [Hlen.out, Hnk.out]; simp), if_neg (by rw [Hlv.out]; decide), Hlen.out, ← Hq.out, if_neg hqk]
        have Hr := Lib.hid hr
        have hqki : ¬ ((q : Int) < (k : Int)) := by omega
        have hkq : k ≤ q := by omega
        have hkqi : (k : Int) ≤ (q : Int) := by omega
        have hcni : (cnt : Int) ≤ (n : Int) := by omega
        have hgc := Hg.out.capLe
        obtain ⟨W, hWd⟩ : ∃ W, W = (rs.getD ((thereL rs n).getD 0 0) []).length := ⟨_, rfl⟩
        have hW1 : W ≤ 1048576 := by
          rw [hWd]
          have := Hg.out.get (i := (thereL rs n).getD 0 0) (thereL_lt (by rw [← Hq.out]; omega))
          exact HW.out _ (List.mem_of_getElem? this)
        have hwid : ∀ a, a < q → (rs.getD ((thereL rs n).getD a 0) []).length = W := fun a ha => by
          have := (of_decide_eq_true Hlv.out) a (by rw [Hlen.out, ← Hq.out]; exact ha)
          rw [Hlen.out] at this
          rw [this, hWd]
        rw [← hWd]
        have Hwid := Lib.hid hwid
        clear hr hlv hqk hWd hwid
        unfold maxLen at hgc
        go_enter Tryz.func29, Tryz.ntmps29
        go_wp2_with fail
        refine (dmade_any C k m F T _ H.out).mono ?_; rintro e w0 ⟨rfl, rfl⟩
        go_wp2_with fail
        have hh := dthere_any A n c rs w0 Hg.out (by omega)
        refine hh.mono ?_; clear hh; rintro e w1 ⟨⟨B, q', d, rfl, hs1⟩, hb1⟩
        obtain rfl : q' = q := by
          have := hs1.len
          rw [ncells_length] at this
          rw [Hq.out]
          omega
        have Hs1 := Lib.hid hs1
        have Hb1 := Lib.hid hb1
        have hz1 := hb1.size
        clear hs1 hb1
        go_wp2_with fail
        refine (cn_any C k m F T _ (H.out.later Hb1.out)).mono ?_; rintro e w2 ⟨rfl, hb2⟩
        have Hs2 := Lib.hid (Hs1.out.below hb2 (Nat.le_refl _))
        have Hb2 := Lib.hid (Hb1.out.trans (hb2.mono hz1))
        have hz2 := Hb2.out.size
        clear hb2
        go_wp2_with fail
        have hh := dlevel_any A n c rs B q' d w2 (Hg.out.later Hb2.out) Hs2.out
        rw [Hlv.out] at hh
        refine hh.mono ?_; clear hh; rintro e w3 ⟨rfl, hb3⟩
        have Hs3 := Lib.hid (Hs2.out.below hb3 (Nat.le_refl _))
        have Hb3 := Lib.hid (Hb2.out.trans (hb3.mono hz2))
        have hz3 := Hb3.out.size
        clear hb3
        go_wp2_with fail
        have hqd := Hs3.out.cap
        have hdt := Hs3.out.top
        unfold maxLen at hdt
        have hkd : k ≤ d := by omega
        have hkdi : (k : Int) ≤ (d : Int) := by omega
        have hcc : cnt ≤ c := by omega
        have hcci : (cnt : Int) ≤ (c : Int) := by omega
        refine (ck_any C k m F T _ (H.out.later Hb3.out)).mono ?_; rintro e w4 ⟨rfl, rfl⟩
        go_wp2_with fail
        have hgs : Gr w4 A cnt c (rs.take cnt) := (Hg.out.later Hb3.out).take hcn
        have hh := dclone_any A cnt c (rs.take cnt) w4 hgs (fun r hr => HW.out r (List.mem_of_mem_take hr)) (by omega)
        clear hgs
        refine hh.mono ?_; clear hh; rintro e w5 ⟨g, cur, rfl, hE, hg5⟩
        have E := Lib.hid hE
        have hz5 := hE.bel.size
        have hgn := hE.new
        have hrl : (rs.take cnt).length = cnt := by rw [List.length_take, Hlen.out]; omega
        have Hrl := Lib.hid hrl
        have hgr := hE.fil.gr hrl (by unfold maxLen; omega)
        have hh := dthere_any (some ⟨g, 0, none⟩) cnt cnt (rs.take cnt) w5 hgr (by omega)
        clear hE hgr hrl
        go_wp2_with fail
        refine hh.mono ?_; clear hh; rintro e w6 ⟨⟨B6, q6, d6, rfl, hs6⟩, hb6⟩
        have hq6 : (thereL (rs.take cnt) cnt).length = q6 := by
          have := hs6.len
          rw [ncells_length] at this
          omega
        have Hq6 := Lib.hid hq6
        have hq6l : q6 ≤ cnt := by rw [← hq6]; exact thereL_le _ _
        have E6 := Lib.hid (E.out.later hb6)
        have hz6 := hb6.size
        clear hs6 hb6 hq6
        by_cases hall : q6 < cnt
        · have halli : (q6 : Int) < (cnt : Int) := by omega
          go_wp2_with fail
          refine (ck_any C k m F T _ ((H.out.later Hb3.out).later E6.out.bel)).mono ?_; rintro e w7 ⟨rfl, rfl⟩
          go_wp2_with fail
          have hsk : Sl w4 1 B k d (ncells ((thereL rs n).take k)) := sl_takeN Hs3.out (by omega)
          have hh := maker_any C k m F T W n A c rs B d ((thereL rs n).take k) w4 w7 (H.out.later Hb3.out) (Hg.out.later Hb3.out) hsk E6.out.bel Hnk.out (fun a ha => by rw [take_getD ha]; exact thereL_lt (by rw [← Hq.out]; omega)) (fun i hi j hj => by
            rw [take_getD hi, take_getD (by omega)]
            have := thereL_mono rs n hj (show i < (thereL rs n).length by rw [← Hq.out]; omega)
            omega) (fun a ha => by rw [take_getD ha]; exact Hwid.out a (by omega)) hW1
          refine hh.mono ?_; clear hh hsk; rintro e w8 ⟨b3, b4, b5, b7, g2, g5, X, rfl, hM, hb8⟩
          have hX := hM.pln.inv
          have hf8 := E6.out.fil.later hb8
          have hh := dfill_any g cnt 74 cur (rs.take cnt) #[.pointer (some ⟨b4, 0, none⟩), .pointer (some ⟨b5, 0, none⟩), .pointer (some ⟨b7, 0, none⟩), .pointer (some ⟨b3, 0, none⟩)] (makeL k X rs ((thereL rs n).take k) W) w8 hf8 Hrl.out (by omega) (enters_of Tryz.func74 (by kernel_rfl) rfl)
            (fun Wd x hx hfr => made_anew w7.heap.size C k m F T b3 b4 b5 b7 g2 g5 W n x rs _ X Wd ((hM.fr hfr (fun b hb => by have hb : b = g := hb; omega)).mkr) (by omega))
          have HX := Lib.hid hX
          have Hb8 := Lib.hid (E6.out.bel.trans (hb8.mono E6.out.bel.size))
          have hz8 := Hb8.out.size
          clear hX hf8 hM hb8
          go_wp2_with fail
          refine hh.mono ?_; clear hh; rintro e w9 ⟨rfl, hf9, cur9, hF9⟩
          have Hb9 := Lib.hid (Hb3.out.trans ((Hb8.out.trans (hf9.below hz8 (fun b hb => by have hb : b = g := hb; omega))).mono hz3))
          have F9 := Lib.hid hF9
          clear hf9 hF9
          go_wp2_with fail
          go_ret2
          exact ⟨.inr ⟨Hr.out, _, _, X, HX.out, rfl, F9.out.gr (by rw [fillL_length]; exact Hrl.out) (by unfold maxLen; omega)⟩, Hb9.out⟩
        · have halli : ¬ ((q6 : Int) < (cnt : Int)) := by omega
          have HallN := Lib.hid hall
          clear hall
          go_wp2_with fail
          go_ret2
          obtain ⟨X, hX⟩ := facM_inv (t := (thereL rs n).take k) h3 (fun a ha => by rw [take_getD ha]; have := thereL_lt (rs := rs) (j := n) (a := a) (by rw [← Hq.out]; omega); have := Hnk.out; omega) (fun i hi j hj => by
            rw [take_getD hi, take_getD (by omega)]
            have := thereL_mono rs n hj (show i < (thereL rs n).length by rw [← Hq.out]; omega)
            omega)
          refine ⟨.inr ⟨Hr.out, _, _, X, hX, rfl, ?_⟩, Hb3.out.trans (E6.out.bel.mono hz3)⟩
          rw [fillL_none _ _ (fun i hi => ?_)]
          · exact E6.out.fil.gr Hrl.out (by unfold maxLen; omega)
          · exact there_all (by rw [Hrl.out, Hq6.out]; have := HallN.out; omega) hi
    · have hlv : levelT rs = false := by simpa using hlv
      have Hlv := Lib.hid hlv
      have hr : rightX k m rs = 2 := by rw [rightX, if_neg (by rw [Hlen.out, Hnk.out]; simp), if_pos Hlv.out]
      have Hr := Lib.hid hr
      clear hr hlv
      go_enter Tryz.func29, Tryz.ntmps29
      go_wp2_with fail
      refine (dmade_any C k m F T _ H.out).mono ?_; rintro e w0 ⟨rfl, rfl⟩
      go_wp2_with fail
      have hh := dthere_any A n c rs w0 Hg.out (by omega)
      refine hh.mono ?_; clear hh; rintro e w1 ⟨⟨B, q', d, rfl, hs1⟩, hb1⟩
      obtain rfl : q' = q := by
        have := hs1.len
        rw [ncells_length] at this
        rw [Hq.out]
        omega
      have Hs1 := Lib.hid hs1
      have Hb1 := Lib.hid hb1
      have hz1 := hb1.size
      clear hs1 hb1
      go_wp2_with fail
      refine (cn_any C k m F T _ (H.out.later Hb1.out)).mono ?_; rintro e w2 ⟨rfl, hb2⟩
      have Hs2 := Lib.hid (Hs1.out.below hb2 (Nat.le_refl _))
      have Hb2 := Lib.hid (Hb1.out.trans (hb2.mono hz1))
      have hz2 := Hb2.out.size
      clear hb2
      go_wp2_with fail
      have hh := dlevel_any A n c rs B q' d w2 (Hg.out.later Hb2.out) Hs2.out
      rw [Hlv.out] at hh
      refine hh.mono ?_; clear hh; rintro e w3 ⟨rfl, hb3⟩
      have Hs3 := Lib.hid (Hs2.out.below hb3 (Nat.le_refl _))
      have Hb3 := Lib.hid (Hb2.out.trans (hb3.mono hz2))
      have hz3 := Hb3.out.size
      clear hb3
      go_wp2_with fail
      go_ret2
      exact ⟨.inl ⟨by rw [Hr.out]; decide, by rw [Hr.out]; rfl⟩, Hb3.out⟩
  · have hz : ((n : Int) != (k : Int) + (m : Int)) = true := by simp; omega
    have hr : rightX k m rs = 2 := by rw [rightX, if_pos (by rw [Hlen.out]; exact hnk)]
    have Hr := Lib.hid hr
    clear hr hnk
    go_enter Tryz.func29, Tryz.ntmps29
    go_wp2_with fail
    refine (dmade_any C k m F T _ H.out).mono ?_; rintro e w0 ⟨rfl, rfl⟩
    go_wp2_with fail
    have hh := dthere_any A n c rs w0 Hg.out (by omega)
    refine hh.mono ?_; clear hh; rintro e w1 ⟨⟨B, q', d, rfl, hs1⟩, hb1⟩
    obtain rfl : q' = q := by
      have := hs1.len
      rw [ncells_length] at this
      rw [Hq.out]
      omega
    have Hs1 := Lib.hid hs1
    have Hb1 := Lib.hid hb1
    have hz1 := hb1.size
    clear hs1 hb1
    go_wp2_with fail
    refine (cn_any C k m F T _ (H.out.later Hb1.out)).mono ?_; rintro e w2 ⟨rfl, hb2⟩
    have Hs2 := Lib.hid (Hs1.out.below hb2 (Nat.le_refl _))
    have Hb2 := Lib.hid (Hb1.out.trans (hb2.mono hz1))
    have hz2 := Hb2.out.size
    clear hb2
    go_wp2_with fail
    go_ret2
    exact ⟨.inl ⟨by rw [Hr.out]; decide, by rw [Hr.out]; rfl⟩, Hb2.out⟩
end Go.Proofs.YtgoomiimlfdcmaaGreat

/-
  DecodeFew returns true, whatever its arguments. No condition.
-/
import Derived.Test.YtgoomiimlfdcmaaGreatDmb
import Derived.Test.YtgoomiimlfdcmaaGreatCbd
import Derived.Test.YtgoomiimlfdcmaaGreatInt
import Derived.Deep.CutBlock
namespace Go.Proofs.YtgoomiimlfdcmaaGreat
open Go.RowKit Go.Proofs
set_option linter.unusedVariables false

theorem set_getD_other (rs : List (List UInt8)) (a j : Nat) (r : List UInt8) (h : j ≠ a) : (rs.set a r).getD j [] = rs.getD j [] := by
  rw [List.getD_eq_getElem?_getD, List.getD_eq_getElem?_getD, List.getElem?_set, if_neg (fun e => h e.symm)]
theorem there_set (rs : List (List UInt8)) (a : Nat) (r : List UInt8) : ∀ j, (thereL (rs.set a r) j).length ≤ (thereL rs j).length + (if a < j then 1 else 0)
  | 0 => by simp [thereL]
  | j + 1 => by
    have ih := there_set rs a r j
    rw [thereL_next, thereL_next]
    by_cases hja : j = a
    · subst hja
      rw [if_neg (Nat.lt_irrefl _)] at ih
      rw [if_pos (Nat.lt_succ_self _)]
      split <;> split <;> (try simp only [List.length_append, List.length_singleton]) <;> omega
    · rw [set_getD_other _ _ _ _ hja]
      have e : (if a < j + 1 then 1 else 0) = (if a < j then 1 else 0) := by
        by_cases h : a < j
        · rw [if_pos h, if_pos (by omega)]
        · rw [if_neg h, if_neg (by omega)]
      rw [e]
      split <;> (try simp only [List.length_append, List.length_singleton]) <;> omega
/-- Rows of which each is nothing, or one and the same. -/
def Few1 (rs : List (List UInt8)) (r : List UInt8) : Prop := ∀ x ∈ rs, x = [] ∨ x = r
theorem Few1.at_ {rs : List (List UInt8)} {r : List UInt8} (h : Few1 rs r) (i : Nat) : rs.getD i [] = [] ∨ rs.getD i [] = r := by
  by_cases hi : i < rs.length
  · rw [List.getD_eq_getElem?_getD, List.getElem?_eq_getElem hi, Option.getD_some]
    exact h _ (List.getElem_mem hi)
  · rw [List.getD_eq_getElem?_getD, List.getElem?_eq_none (by omega)]
    exact .inl rfl
theorem Few1.set {rs : List (List UInt8)} {r : List UInt8} (h : Few1 rs r) (a : Nat) : Few1 (rs.set a r) r := fun x hx => by
  rcases List.mem_or_eq_of_mem_set hx with h' | h'
  · exact h x h'
  · exact .inr h'
theorem Few1.right {rs : List (List UInt8)} {r : List UInt8} {k m : Nat} (h : Few1 rs r) (hl : rs.length = k + m) (hf : (thereL rs rs.length).length < k) : rightX k m rs = 60 := by
  have hlv : levelT rs = true := decide_eq_true fun a ha => by
    have p1 := thereL_pos ha
    have p0 := thereL_pos (show 0 < (thereL rs rs.length).length by omega)
    rcases h.at_ ((thereL rs rs.length).getD a 0) with e | e <;> rcases h.at_ ((thereL rs rs.length).getD 0 0) with e' | e'
    · rw [e, e']
    · rw [e] at p1; exact absurd p1 (by decide)
    · rw [e'] at p0; exact absurd p0 (by decide)
    · rw [e, e']
  rw [rightX, if_neg (by omega), if_neg (by rw [hlv]; decide), if_pos hf]
theorem Few1.small {rs : List (List UInt8)} {r : List UInt8} (h : Few1 rs r) (hr : r.length ≤ 100) : ∀ x ∈ rs, x.length ≤ 1048576 := fun x hx => by
  rcases h x hx with rfl | rfl
  · exact Nat.zero_le _
  · omega
theorem there_nils (N j : Nat) : (thereL (List.replicate N []) j).length = 0 := by
  rw [List.length_eq_zero_iff]
  refine List.filter_eq_nil_iff.2 fun i _ h => ?_
  have e : (List.replicate N ([] : List UInt8)).getD i [] = [] := by
    rw [List.getD_eq_getElem?_getD, List.getElem?_replicate]
    split <;> rfl
  rw [e] at h
  exact absurd h (by decide)
theorem right_len {rs : List (List UInt8)} {k m : Nat} (h : rs.length ≠ k + m) : rightX k m rs = 2 := by rw [rightX, if_pos h]

set_option maxRecDepth 100000 in
set_option maxHeartbeats 3200000 in
theorem decodeFew_walk (k m : Int) (A : Option Addr) (c : Nat) (row : List UInt8) (Ah : Option Addr) (ch : Nat) (have_ : List Int) (w : World) (hk : -9223372036854775808 ≤ k ∧ k < 9223372036854775808) (hm : -9223372036854775808 ≤ m ∧ m < 9223372036854775808) (hs : Sl w 1 A row.length c (cells row)) (hh : Sl w 1 Ah have_.length ch (icells have_)) :
    Calls Tryz.prog 6 #[.int .i64 k, .int .i64 m, .slice A row.length c, .slice Ah have_.length ch] w (SaysTrue w) := by
  obtain ⟨L, hL⟩ : ∃ L, L = row.length := ⟨_, rfl⟩
  obtain ⟨q, hq⟩ : ∃ q, q = have_.length := ⟨_, rfl⟩
  rw [← hL] at hs ⊢
  rw [← hq] at hh ⊢
  have hlim := hs.lim
  have hlimq := hh.lim
  unfold maxLen at hlim hlimq
  have HS := Lib.hid hs
  have HH := Lib.hid hh
  have HL := Lib.hid hL
  have HQ := Lib.hid hq
  clear hs hh hL hq
  by_cases hmay : 1 ≤ k ∧ 1 ≤ m ∧ k + m ≤ 255
  · obtain ⟨K0, hK0⟩ : ∃ x : Nat, k = (x : Int) := ⟨k.toNat, by omega⟩
    obtain ⟨M0, hM0⟩ : ∃ x : Nat, m = (x : Int) := ⟨m.toNat, by omega⟩
    subst hK0; subst hM0
    have hb1 : 1 ≤ K0 := by omega
    have hb2 : 1 ≤ M0 := by omega
    have hb3 : K0 + M0 ≤ 255 := by omega
    have hkw : IntKind.i64.wrap ((K0 : Int) + (M0 : Int)) = (K0 : Int) + (M0 : Int) := by rw [IntKind.wrap_i64]; omega
    clear hmay hk hm
    by_cases h24 : (24 : Int) < (K0 : Int) + (M0 : Int)
    · go_enter Tryz.func6, Tryz.ntmps6
      go_wp2_with fail
      refine (new_any _).mono ?_; rintro e w1 ⟨rfl, hf, hb⟩
      obtain ⟨F, hF⟩ : ∃ F, F = w.heap.size + 1 := ⟨_, rfl⟩
      obtain ⟨T, hT⟩ : ∃ T, T = w.heap.size := ⟨_, rfl⟩
      rw [← hF] at hf ⊢
      rw [← hT] at hf
      have HT := Lib.hid (show w.heap.size ≤ T by omega)
      clear hF hT
      go_wp2_with fail
      refine (cnew_at F T (K0 : Int) (M0 : Int) K0 M0 rfl rfl ⟨hb1, hb2, hb3⟩ _ hf).mono ?_; rintro e w2 ⟨C, rfl, hC, hr⟩
      have L2 := Lib.hid (Lw.of hb HT.out hr hC.fld)
      have C2 := Lib.hid hC
      clear hf hb hC hr
      go_wp2_with fail
      refine (decodes_any _).mono ?_; rintro e wz ⟨rfl, hbz⟩
      have LZ := Lib.hid (L2.out.later hbz)
      clear hbz
      go_wp2_with fail
      go_ret
      exact ⟨rfl, LZ.out.bel⟩
    · by_cases h100 : (100 : Int) < (L : Int)
      · go_enter Tryz.func6, Tryz.ntmps6
        go_wp2_with fail
        refine (new_any _).mono ?_; rintro e w1 ⟨rfl, hf, hb⟩
        obtain ⟨F, hF⟩ : ∃ F, F = w.heap.size + 1 := ⟨_, rfl⟩
        obtain ⟨T, hT⟩ : ∃ T, T = w.heap.size := ⟨_, rfl⟩
        rw [← hF] at hf ⊢
        rw [← hT] at hf
        have HT := Lib.hid (show w.heap.size ≤ T by omega)
        clear hF hT
        go_wp2_with fail
        refine (cnew_at F T (K0 : Int) (M0 : Int) K0 M0 rfl rfl ⟨hb1, hb2, hb3⟩ _ hf).mono ?_; rintro e w2 ⟨C, rfl, hC, hr⟩
        have L2 := Lib.hid (Lw.of hb HT.out hr hC.fld)
        have C2 := Lib.hid hC
        clear hf hb hC hr
        go_wp2_with fail
        refine (decodes_any _).mono ?_; rintro e wz ⟨rfl, hbz⟩
        have LZ := Lib.hid (L2.out.later hbz)
        clear hbz
        go_wp2_with fail
        go_ret
        exact ⟨rfl, LZ.out.bel⟩
      · by_cases h0 : (L : Int) = 0
        · have h0b : ((L : Int) == 0) = true := by simpa using h0
          clear h0
          go_enter Tryz.func6, Tryz.ntmps6
          go_wp2_with fail
          refine (new_any _).mono ?_; rintro e w1 ⟨rfl, hf, hb⟩
          obtain ⟨F, hF⟩ : ∃ F, F = w.heap.size + 1 := ⟨_, rfl⟩
          obtain ⟨T, hT⟩ : ∃ T, T = w.heap.size := ⟨_, rfl⟩
          rw [← hF] at hf ⊢
          rw [← hT] at hf
          have HT := Lib.hid (show w.heap.size ≤ T by omega)
          clear hF hT
          go_wp2_with fail
          refine (cnew_at F T (K0 : Int) (M0 : Int) K0 M0 rfl rfl ⟨hb1, hb2, hb3⟩ _ hf).mono ?_; rintro e w2 ⟨C, rfl, hC, hr⟩
          have L2 := Lib.hid (Lw.of hb HT.out hr hC.fld)
          have C2 := Lib.hid hC
          clear hf hb hC hr
          go_wp2_with fail
          refine (decodes_any _).mono ?_; rintro e wz ⟨rfl, hbz⟩
          have LZ := Lib.hid (L2.out.later hbz)
          clear hbz
          go_wp2_with fail
          go_ret
          exact ⟨rfl, LZ.out.bel⟩
        · have h0b : ((L : Int) == 0) = false := by simpa using h0
          obtain ⟨N, hN⟩ : ∃ N, N = K0 + M0 := ⟨_, rfl⟩
          have hmk := makes_eq ((K0 : Int) + (M0 : Int)) N (by rw [hN]; simp) (by omega)
          have HN := Lib.hid hN
          have hNk : K0 + 1 ≤ N := by omega
          have hN24 : N ≤ 255 := by omega
          have hNi : (N : Int) = (K0 : Int) + (M0 : Int) := by omega
          have HNi := Lib.hid hNi
          clear hN h0 hNi
          go_enter Tryz.func6, Tryz.ntmps6
          go_wp2_with fail
          refine (new_any _).mono ?_; rintro e w1 ⟨rfl, hf, hb⟩
          obtain ⟨F, hF⟩ : ∃ F, F = w.heap.size + 1 := ⟨_, rfl⟩
          obtain ⟨T, hT⟩ : ∃ T, T = w.heap.size := ⟨_, rfl⟩
          rw [← hF] at hf ⊢
          rw [← hT] at hf
          have HT := Lib.hid (show w.heap.size ≤ T by omega)
          clear hF hT
          go_wp2_with fail
          refine (cnew_at F T (K0 : Int) (M0 : Int) K0 M0 rfl rfl ⟨hb1, hb2, hb3⟩ _ hf).mono ?_; rintro e w2 ⟨C, rfl, hC, hr⟩
          have L2 := Lib.hid (Lw.of hb HT.out hr hC.fld)
          have C2 := Lib.hid hC
          clear hf hb hC hr
          go_wp2_with fail
          have hF0 := Fil.nils w2 N
          have hb3 : Below w2.heap.size w2 (w2.alloc (.cells (madeCells #[.slice none 0 0] N) 39)) := (Below.refl _ _).alloc (Nat.le_refl _) _
          obtain ⟨g, hgd⟩ : ∃ g, g = w2.heap.size := ⟨_, rfl⟩
          obtain ⟨w3, hw3⟩ : ∃ x, x = w2.alloc (.cells (madeCells #[.slice none 0 0] N) 39) := ⟨_, rfl⟩
          rw [← hw3] at hF0 hb3 ⊢
          rw [← hgd] at hF0 ⊢
          have Hb3 := Lib.hid hb3
          have F3 := Lib.hid hF0
          have hgw : g < w3.heap.size := block_lt hF0.row
          have hw2g : w2.heap.size ≤ g := by omega
          have hw23 := hb3.size
          clear hF0 hb3 hgd hw3
          go_wp2_with fail
          go_loopw [11, 12] (fun nv iv wr => ∃ (i nn : Nat) (rs : List (List UInt8)) (cur : Array Value), i ≤ K0 - 1 ∧ nn ≤ i ∧ iv = .int .i64 (i : Int) ∧ nv = .int .i64 (nn : Int) ∧ Fil wr g N cur rs ∧ rs.length = N ∧ Few1 rs row ∧ (thereL rs N).length ≤ i ∧ Below w2.heap.size w2 wr) (fun _ iv _ => K0 - 1 - (intOf iv).toNat)
          case atStart => exact ⟨0, 0, List.replicate N [], _, by omega, by omega, rfl, rfl, F3.out, by simp, fun x hx => .inl (List.eq_of_mem_replicate hx), by rw [there_nils]; exact Nat.zero_le _, Hb3.out⟩
          case round =>
            obtain ⟨wl, rfl⟩ : ∃ x, x = wr := ⟨_, rfl⟩
            obtain ⟨i, nn, rs, cur, hi, hnn, rfl, rfl, hF, hrl, hfew, hth, hb⟩ := hrel
            have Fq := Lib.hid hF
            have Hrl := Lib.hid hrl
            have Hfew := Lib.hid hfew
            have Hth := Lib.hid hth
            have Hb := Lib.hid hb
            have hszl := hb.size
            clear hF hrl hfew hth hb
            by_cases hiq : i < q
            · have hiqi : (i : Int) < (q : Int) := by omega
              by_cases hik : i < K0 - 1
              · have hiki : (i : Int) < (K0 : Int) - 1 := by omega
                obtain ⟨bh, oh, rfl, hch⟩ := (HH.out.below (L2.out.bel.trans (Hb.out.mono L2.out.bel.size)) (Nat.le_refl _)).at_ hiq
                have hcell := hch i _ (icells_get have_ i (by rw [← HQ.out]; exact hiq))
                obtain ⟨z, hz⟩ : ∃ z, z = have_[i]'(by rw [← HQ.out]; exact hiq) := ⟨_, rfl⟩
                rw [← hz] at hcell
                clear hch hz
                go_upto_region 9 with (fail)
                go_cut [13] from 47 to 82 (fun v wx => ∃ a : Nat, a < N ∧ v = .int .i64 (a : Int) ∧ wx = wl)
                case first =>
                  go_wp2_with fail
                  go_meet
                  case rel =>
                    have := HN.out
                    exact ⟨(max 0 (min z ((K0 : Int) + (M0 : Int) - 1))).toNat, by omega, by rw [Int.toNat_of_nonneg (by omega)], rfl⟩
                case rest =>
                  obtain ⟨a, haN, rfl, hwc⟩ := hcut
                  subst hwc
                  have haNi : (a : Int) < (N : Int) := by omega
                  obtain ⟨Ar, cr, h1, h2, h3⟩ := Fq.out.rows a _ (show rs[a]? = some (rs.getD a []) by simp [show a < rs.length by rw [Hrl.out]; exact haN])
                  have q0 : wc.cell? ⟨g, a, none⟩ = some (.slice Ar (rs.getD a []).length cr) := by rw [cell_of_row _ _ _ _ _ _ Fq.out.row]; exact h1
                  have y0 := Fq.out.free a
                  obtain ⟨Lr, hLr⟩ : ∃ L, L = (rs.getD a []).length := ⟨_, rfl⟩
                  rw [← hLr] at q0
                  have hlim := h2.lim
                  rw [← hLr] at hlim
                  unfold maxLen at hlim
                  have hcount := there_set rs a row N
                  rw [if_pos haN] at hcount
                  have Hcount := Lib.hid hcount
                  clear h1 h2 h3 hLr hcount hcell
                  by_cases hz : Lr = 0
                  · have hzi : ((Lr : Int) == 0) = true := by simp [hz]
                    clear hz
                    have hwin : wc.heap.size ≤ (wc.alloc (.cells #[] 5)).heap.size := by simp
                    have Sr := Lib.hid (HS.out.below (L2.out.bel.trans (Hb.out.mono L2.out.bel.size)) (Nat.le_refl _))
                    have hgl := block_lt Fq.out.row
                    have hfw := Fq.out.free a
                    go_wp2_with (at_builtin; refine wpList_append_bm (B := wc.heap.size) rfl (.tmp 79) (.tmp 80) rfl rfl (Own.full (Sl.empty _ 1 _ 0 (by decide))) hwin A L c row rfl (Sr.out.alloc _) ?pb ?pc)
                    case pb => omega
                    intro A2 c2 w5 ho2 hb2 hr2
                    have hb5 : Below wc.heap.size wc w5 := ((Below.refl _ _).alloc (Nat.le_refl _) _).trans hb2
                    have hs5 : Sl w5 1 A2 L c2 (cells row) := by simpa using ho2.sl
                    have hA2 : ∀ b o, 0 < L → A2 = some ⟨b, o, none⟩ → b ≠ g := fun b o hn e => by
                      have h5 := ownsRow_new (by simpa using hr2 hn) hn e
                      omega
                    have F5 := Lib.hid (Fq.out.later hb5)
                    have Hb5 := Lib.hid (Hb.out.trans (hb5.mono hszl))
                    have hsz5 := Hb5.out.size
                    have Hs5 := Lib.hid hs5
                    have HA2 := Lib.hid hA2
                    obtain ⟨v0, z0⟩ := F5.out.has haN
                    have y5 := F5.out.free a
                    clear ho2 hb2 hr2 hb5 hs5 hA2 q0 y0 hfw
                    go_wp2_with fail
                    have hf := Fr.setCell (S := fun k => k = g) (Fr.refl _ w5) (p := ⟨g, a, none⟩) (.inr rfl) (.slice A2 L c2)
                    have hst := F5.out.put hf haN (A := A2) (c := c2) (r := row) (by rw [← HL.out]; exact heap_setCell_same _ g a _ _ _ F5.out.row) (by rw [← HL.out]; exact Hs5.out.fr hf (fun b o hn e hb => HA2.out b o hn e hb)) (by rw [← HL.out]; exact HA2.out)
                    have Hst := Lib.hid hst
                    have Hbn := Lib.hid (Hb5.out.trans (hf.below hsz5 (fun b hb => by have hb : b = g := hb; omega)))
                    clear hst hf z0 y5
                    go_roundw
                    case rel => exact ⟨i + 1, nn + 1, rs.set a row, _, by omega, by omega, by go_num, by go_num, Hst.out, by rw [List.length_set]; exact Hrl.out, Hfew.out.set a, by have := Hth.out; have := Hcount.out; omega, Hbn.out⟩
                    case measure => simp [intOf]; omega
                  · have hzi : ((Lr : Int) == 0) = false := by simp; omega
                    clear hz
                    have hwin : wc.heap.size ≤ (wc.alloc (.cells #[] 5)).heap.size := by simp
                    have Sr := Lib.hid (HS.out.below (L2.out.bel.trans (Hb.out.mono L2.out.bel.size)) (Nat.le_refl _))
                    have hgl := block_lt Fq.out.row
                    have hfw := Fq.out.free a
                    go_wp2_with (at_builtin; refine wpList_append_bm (B := wc.heap.size) rfl (.tmp 79) (.tmp 80) rfl rfl (Own.full (Sl.empty _ 1 _ 0 (by decide))) hwin A L c row rfl (Sr.out.alloc _) ?qb ?qc)
                    case qb => omega
                    intro A2 c2 w5 ho2 hb2 hr2
                    have hb5 : Below wc.heap.size wc w5 := ((Below.refl _ _).alloc (Nat.le_refl _) _).trans hb2
                    have hs5 : Sl w5 1 A2 L c2 (cells row) := by simpa using ho2.sl
                    have hA2 : ∀ b o, 0 < L → A2 = some ⟨b, o, none⟩ → b ≠ g := fun b o hn e => by
                      have h5 := ownsRow_new (by simpa using hr2 hn) hn e
                      omega
                    have F5 := Lib.hid (Fq.out.later hb5)
                    have Hb5 := Lib.hid (Hb.out.trans (hb5.mono hszl))
                    have hsz5 := Hb5.out.size
                    have Hs5 := Lib.hid hs5
                    have HA2 := Lib.hid hA2
                    obtain ⟨v0, z0⟩ := F5.out.has haN
                    have y5 := F5.out.free a
                    clear ho2 hb2 hr2 hb5 hs5 hA2 q0 y0 hfw
                    go_wp2_with fail
                    have hf := Fr.setCell (S := fun k => k = g) (Fr.refl _ w5) (p := ⟨g, a, none⟩) (.inr rfl) (.slice A2 L c2)
                    have hst := F5.out.put hf haN (A := A2) (c := c2) (r := row) (by rw [← HL.out]; exact heap_setCell_same _ g a _ _ _ F5.out.row) (by rw [← HL.out]; exact Hs5.out.fr hf (fun b o hn e hb => HA2.out b o hn e hb)) (by rw [← HL.out]; exact HA2.out)
                    have Hst := Lib.hid hst
                    have Hbn := Lib.hid (Hb5.out.trans (hf.below hsz5 (fun b hb => by have hb : b = g := hb; omega)))
                    clear hst hf z0 y5
                    go_roundw
                    case rel => exact ⟨i + 1, nn, rs.set a row, _, by omega, by omega, by go_num, rfl, Hst.out, by rw [List.length_set]; exact Hrl.out, Hfew.out.set a, by have := Hth.out; have := Hcount.out; omega, Hbn.out⟩
                    case measure => simp [intOf]; omega
              · have hiki : ¬ ((i : Int) < (K0 : Int) - 1) := by omega
                obtain ⟨hF, hrl, hfew, hth, hb⟩ := (⟨Fq.out, Hrl.out, Hfew.out, (by have := Hth.out; omega : (thereL rs N).length ≤ K0 - 1), Hb.out⟩ : _ ∧ _ ∧ _ ∧ _ ∧ _)
                have hr60 : rightX K0 M0 rs = 60 := hfew.right (by rw [hrl, HN.out]) (by rw [hrl]; omega)
                have hr2 : rightX K0 M0 (rs.take (N - 1)) = 2 := right_len (by rw [List.length_take, hrl, ← HN.out]; omega)
                have hG : Gr wl (some ⟨g, 0, none⟩) N N rs := hF.gr hrl (by unfold maxLen; omega)
                have hsm := hfew.small (by rw [← HL.out]; omega)
                have hnk : (nn : Int) < (K0 : Int) := by omega
                have hN1 : ((N : Int) - 1) = ((N - 1 : Nat) : Int) := by omega
                have L3 := Lib.hid (L2.out.later hb)
                have C3 := Lib.hid (C2.out.later hb)
                have G3 := Lib.hid hG
                have Hsm := Lib.hid hsm
                have H60 := Lib.hid hr60
                have H2 := Lib.hid hr2
                have HN1 := Lib.hid hN1
                clear hF hrl hfew hth hb hG hsm hr60 hr2 hN1
                go_wp2_with fail
                refine (ddata_ok C K0 M0 F T (some ⟨g, 0, none⟩) N N rs _ C3.out G3.out Hsm.out (by omega)).mono ?_; rintro e w5 ⟨hR, hb5⟩
                rw [H60.out] at hR
                rcases hR with ⟨_, rfl⟩ | ⟨hno, _⟩
                rotate_left
                · exact absurd hno (by decide)
                have L5 := Lib.hid (L3.out.later hb5)
                have C5 := Lib.hid (C3.out.later hb5)
                have G5 := Lib.hid (G3.out.later hb5)
                clear hb5 L3 C3 G3
                go_wp2_with fail
                refine (dall_ok C K0 M0 F T (some ⟨g, 0, none⟩) N N rs _ C5.out G5.out Hsm.out (by omega)).mono ?_; rintro e w6 ⟨hR, hb6⟩
                rw [H60.out] at hR
                rcases hR with ⟨_, rfl⟩ | ⟨hno, _⟩
                rotate_left
                · exact absurd hno (by decide)
                have L6 := Lib.hid (L5.out.later hb6)
                have C6 := Lib.hid (C5.out.later hb6)
                have G6 := Lib.hid ((G5.out.later hb6).take (show N - 1 ≤ N by omega))
                clear hb6 L5 C5 G5
                have hN2 : (N : Int) - 1 ≤ (N : Int) := by omega
                have hN3 : 0 ≤ (N : Int) - 1 := by omega
                go_wp2_with fail
                refine (ddata_ok C K0 M0 F T (some ⟨g, 0, none⟩) (N - 1) N (rs.take (N - 1)) _ C6.out G6.out (fun r hr => Hsm.out r (List.mem_of_mem_take hr)) (by omega)).mono ?_; rintro e w7 ⟨hR, hb7⟩
                rw [H2.out] at hR
                rcases hR with ⟨_, rfl⟩ | ⟨hno, _⟩
                rotate_left
                · exact absurd hno (by decide)
                have L7 := Lib.hid (L6.out.later hb7)
                clear hb7 L6 C6 G6
                go_wp2_with fail
                refine (decodes_any _).mono ?_; rintro e wz ⟨rfl, hbz⟩
                have LZ := Lib.hid (L7.out.later hbz)
                clear hbz
                go_wp2_with fail
                go_ret
                exact ⟨rfl, LZ.out.bel⟩
            · have hiqi : ¬ ((i : Int) < (q : Int)) := by omega
              obtain ⟨hF, hrl, hfew, hth, hb⟩ := (⟨Fq.out, Hrl.out, Hfew.out, (by have := Hth.out; omega : (thereL rs N).length ≤ K0 - 1), Hb.out⟩ : _ ∧ _ ∧ _ ∧ _ ∧ _)
              have hr60 : rightX K0 M0 rs = 60 := hfew.right (by rw [hrl, HN.out]) (by rw [hrl]; omega)
              have hr2 : rightX K0 M0 (rs.take (N - 1)) = 2 := right_len (by rw [List.length_take, hrl, ← HN.out]; omega)
              have hG : Gr wl (some ⟨g, 0, none⟩) N N rs := hF.gr hrl (by unfold maxLen; omega)
              have hsm := hfew.small (by rw [← HL.out]; omega)
              have hnk : (nn : Int) < (K0 : Int) := by omega
              have hN1 : ((N : Int) - 1) = ((N - 1 : Nat) : Int) := by omega
              have L3 := Lib.hid (L2.out.later hb)
              have C3 := Lib.hid (C2.out.later hb)
              have G3 := Lib.hid hG
              have Hsm := Lib.hid hsm
              have H60 := Lib.hid hr60
              have H2 := Lib.hid hr2
              have HN1 := Lib.hid hN1
              clear hF hrl hfew hth hb hG hsm hr60 hr2 hN1
              go_wp2_with fail
              refine (ddata_ok C K0 M0 F T (some ⟨g, 0, none⟩) N N rs _ C3.out G3.out Hsm.out (by omega)).mono ?_; rintro e w5 ⟨hR, hb5⟩
              rw [H60.out] at hR
              rcases hR with ⟨_, rfl⟩ | ⟨hno, _⟩
              rotate_left
              · exact absurd hno (by decide)
              have L5 := Lib.hid (L3.out.later hb5)
              have C5 := Lib.hid (C3.out.later hb5)
              have G5 := Lib.hid (G3.out.later hb5)
              clear hb5 L3 C3 G3
              go_wp2_with fail
              refine (dall_ok C K0 M0 F T (some ⟨g, 0, none⟩) N N rs _ C5.out G5.out Hsm.out (by omega)).mono ?_; rintro e w6 ⟨hR, hb6⟩
              rw [H60.out] at hR
              rcases hR with ⟨_, rfl⟩ | ⟨hno, _⟩
              rotate_left
              · exact absurd hno (by decide)
              have L6 := Lib.hid (L5.out.later hb6)
              have C6 := Lib.hid (C5.out.later hb6)
              have G6 := Lib.hid ((G5.out.later hb6).take (show N - 1 ≤ N by omega))
              clear hb6 L5 C5 G5
              have hN2 : (N : Int) - 1 ≤ (N : Int) := by omega
              have hN3 : 0 ≤ (N : Int) - 1 := by omega
              go_wp2_with fail
              refine (ddata_ok C K0 M0 F T (some ⟨g, 0, none⟩) (N - 1) N (rs.take (N - 1)) _ C6.out G6.out (fun r hr => Hsm.out r (List.mem_of_mem_take hr)) (by omega)).mono ?_; rintro e w7 ⟨hR, hb7⟩
              rw [H2.out] at hR
              rcases hR with ⟨_, rfl⟩ | ⟨hno, _⟩
              rotate_left
              · exact absurd hno (by decide)
              have L7 := Lib.hid (L6.out.later hb7)
              clear hb7 L6 C6 G6
              go_wp2_with fail
              refine (decodes_any _).mono ?_; rintro e wz ⟨rfl, hbz⟩
              have LZ := Lib.hid (L7.out.later hbz)
              clear hbz
              go_wp2_with fail
              go_ret
              exact ⟨rfl, LZ.out.bel⟩
  · have hmF := mayB_f hmay
    clear hmay
    go_enter Tryz.func6, Tryz.ntmps6
    go_wp2_with fail
    refine (new_any _).mono ?_; rintro e w1 ⟨rfl, hf, hb⟩
    obtain ⟨F, hF⟩ : ∃ F, F = w.heap.size + 1 := ⟨_, rfl⟩
    obtain ⟨T, hT⟩ : ∃ T, T = w.heap.size := ⟨_, rfl⟩
    rw [← hF] at hf ⊢
    rw [← hT] at hf
    have HT := Lib.hid (show w.heap.size ≤ T by omega)
    clear hF hT
    go_wp2_with fail
    refine (cnew_no F T k m hk hm hmF _ hf).mono ?_; rintro e w2 ⟨rfl, hf2, hr⟩
    have L2 := Lib.hid (Lw.of hb HT.out hr hf2)
    clear hf hb hf2 hr
    go_wp2_with fail
    refine (decodes_any _).mono ?_; rintro e wz ⟨rfl, hbz⟩
    have LZ := Lib.hid (L2.out.later hbz)
    clear hbz
    go_wp2_with fail
    go_ret
    exact ⟨rfl, LZ.out.bel⟩
end Go.Proofs.YtgoomiimlfdcmaaGreat

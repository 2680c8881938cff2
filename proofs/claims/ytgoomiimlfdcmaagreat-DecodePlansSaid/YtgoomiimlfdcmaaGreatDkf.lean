/-
  The contract of the document's right of layer 6. No condition but bounds.
-/
import Derived.Test.YtgoomiimlfdcmaaGreatDkd
import Derived.BigQuiet
namespace Go.Proofs.YtgoomiimlfdcmaaGreat
open Go.RowKit Go.Proofs
set_option linter.unusedVariables false

/-- Are those of the rows that have bytes of one length? -/
def levelT (rs : List (List UInt8)) : Bool := decide (∀ a, a < (thereL rs rs.length).length → (rs.getD ((thereL rs rs.length).getD a 0) []).length = (rs.getD ((thereL rs rs.length).getD 0 0) []).length)
/-- The error of any rows. -/
def rightX (k m : Nat) (rs : List (List UInt8)) : Int := if rs.length ≠ k + m then 2 else if levelT rs = false then 2 else if (thereL rs rs.length).length < k then 60 else 0
theorem thereL_lt {rs : List (List UInt8)} {j a : Nat} (h : a < (thereL rs j).length) : (thereL rs j).getD a 0 < j := by
  have hm : (thereL rs j)[a] ∈ (List.range j).filter (fun i => decide (0 < (rs.getD i []).length)) := List.getElem_mem h
  rw [List.mem_filter, List.mem_range] at hm
  rw [show (thereL rs j).getD a 0 = (thereL rs j)[a] from by simp [h]]
  exact hm.1

set_option maxRecDepth 20000 in
set_option maxHeartbeats 1600000 in
theorem right6_any (k m : Nat) (h3 : k + m ≤ 255) (A : Option Addr) (n c : Nat) (rs : List (List UInt8)) (w : World) (h : Gr w A n c rs) (hn : n ≤ 1048576) :
    Calls Tryz.prog 31 #[.int .i64 (k : Int), .int .i64 (m : Int), .slice A n c] w fun e w' => e = .returned (.int .i64 (rightX k m rs)) ∧ Below w.heap.size w w' := by
  have ht := there6_any A n c rs w h hn
  have hlen := h.len
  have H := Lib.hid h; clear h
  have Hlen := Lib.hid hlen
  obtain ⟨t, htd⟩ : ∃ t, t = thereL rs n := ⟨_, rfl⟩
  have hlt : ∀ a, a < t.length → t.getD a 0 < n := fun a ha => by rw [htd]; exact thereL_lt (by rw [← htd]; exact ha)
  have htn : t.length ≤ n := by rw [htd]; exact thereL_le rs n
  rw [← htd] at ht
  have Htd := Lib.hid htd; clear htd hlen
  have Hlt := Lib.hid hlt; clear hlt
  by_cases hnk : n = k + m
  · have hz : ((n : Int) != (k : Int) + (m : Int)) = false := by simp; omega
    have hni : (n : Int) = (k : Int) + (m : Int) := by omega
    have Hnk := Lib.hid hnk; clear hnk hni
    go_enter Tryz.func31, Tryz.ntmps31
    go_wp2_with fail
    refine ht.mono ?_; clear ht; rintro e w1 ⟨⟨B, q, d, rfl, hs⟩, hb1⟩
    obtain rfl : q = t.length := by
      have := hs.len
      rw [ncells_length] at this
      omega
    have Hs := Lib.hid hs; clear hs
    have Hb1 := Lib.hid hb1
    have hsz1 := hb1.size
    clear hb1
    obtain ⟨q, hq⟩ : ∃ q, q = t.length := ⟨_, rfl⟩
    rw [← hq] at htn Hs ⊢
    have Hq := Lib.hid hq; clear hq
    go_wp2_with fail
    go_loopw [8] (fun i wr => ∃ a : Nat, a ≤ q ∧ i = .int .i64 (a : Int) ∧ (∀ x, x < a → (rs.getD (t.getD x 0) []).length = (rs.getD (t.getD 0 0) []).length) ∧ Below w1.heap.size w1 wr) (fun i _ => q - (intOf i).toNat)
    case atStart => exact ⟨0, by omega, rfl, fun x hx => absurd hx (by omega), Below.refl _ _⟩
    case round =>
      obtain ⟨a, ha, rfl, hall, hb⟩ := hrel
      have Hall := Lib.hid hall; clear hall
      by_cases hlt : a < q
      · obtain ⟨b, o, rfl, hc⟩ := (H.out.later (Hb1.out.trans (hb.mono hsz1))).at_ (by omega)
        have hta := Hlt.out a (by rw [← Hq.out]; exact hlt)
        have ht0 := Hlt.out 0 (by rw [← Hq.out]; omega)
        obtain ⟨A1, c1, hc1, hs1⟩ := hc _ _ (H.out.get hta)
        obtain ⟨A0, c0, hc0, hs0⟩ := hc _ _ (H.out.get ht0)
        obtain ⟨gb, go, rfl, hcn⟩ := (Hs.out.below hb (Nat.le_refl _)).at_ hlt
        have n1 := hcn a _ (ncells_get t a (by rw [← Hq.out]; exact hlt))
        have n0 := hcn 0 _ (ncells_get t 0 (by rw [← Hq.out]; omega))
        rw [show t[a]'(by rw [← Hq.out]; exact hlt) = t.getD a 0 from by simp [show a < t.length by rw [← Hq.out]; exact hlt]] at n1
        rw [show t[0]'(by rw [← Hq.out]; omega) = t.getD 0 0 from by simp [show 0 < t.length by rw [← Hq.out]; omega], Nat.add_zero] at n0
        obtain ⟨L1, hL1⟩ : ∃ L, L = (rs.getD (t.getD a 0) []).length := ⟨_, rfl⟩
        obtain ⟨L0, hL0⟩ : ∃ L, L = (rs.getD (t.getD 0 0) []).length := ⟨_, rfl⟩
        rw [← hL1] at hc1 hs1
        rw [← hL0] at hc0 hs0
        obtain ⟨x1, hx1⟩ : ∃ x, x = t.getD a 0 := ⟨_, rfl⟩
        obtain ⟨x0, hx0⟩ : ∃ x, x = t.getD 0 0 := ⟨_, rfl⟩
        rw [← hx1] at hc1 n1 hta
        rw [← hx0] at hc0 n0 ht0
        have hm1 := hs1.lim
        have hm0 := hs0.lim
        unfold maxLen at hm1 hm0
        have HL1 := Lib.hid hL1; clear hL1
        have HL0 := Lib.hid hL0; clear hL0
        clear hc hs1 hs0 hcn hx1 hx0
        have hqi : (a : Int) < (q : Int) := by omega
        have hq0 : (0 : Int) < (q : Int) := by omega
        have hx1i : (x1 : Int) < (n : Int) := by omega
        have hx0i : (x0 : Int) < (n : Int) := by omega
        by_cases heq : L1 = L0
        · have hzz : (((L1 : Int) != (L0 : Int))) = false := by simp [heq]
          have Heq := Lib.hid heq; clear heq
          go_wp2_with fail
          go_quiet (fail)
          go_wp2_with fail
          go_roundw
          case rel => exact ⟨a + 1, by omega, by go_num, fun x hx => by
            by_cases hxa : x = a
            · subst hxa
              rw [← HL1.out, ← HL0.out, Heq.out]
            · exact Hall.out x (by omega), below_drewN hb nq⟩
          case measure => simp [intOf]; omega
        · have hzz : (((L1 : Int) != (L0 : Int))) = true := by simp; omega
          have Heq := Lib.hid heq; clear heq
          go_wp2_with fail
          go_quiet (fail)
          go_wp2_with fail
          go_ret
          have hl : levelT rs = false := decide_eq_false fun hh => Heq.out (by
            have := hh a (by rw [Hlen.out, ← Htd.out, ← Hq.out]; exact hlt)
            rw [Hlen.out, ← Htd.out] at this
            rw [HL1.out, HL0.out]
            exact this)
          exact ⟨by rw [rightX, if_neg (by rw [Hlen.out, Hnk.out]; simp), if_pos hl]; rfl, Hb1.out.trans ((below_drewN hb nq).mono hsz1)⟩
      · obtain rfl : a = q := by omega
        have hl : levelT rs = true := decide_eq_true fun x hx => by
          rw [Hlen.out, ← Htd.out] at hx ⊢
          exact Hall.out x (by rw [Hq.out]; exact hx)
        have hr : rightX k m rs = if a < k then 60 else 0 := by
          rw [rightX, if_neg (by rw [Hlen.out, Hnk.out]; simp), if_neg (by rw [hl]; decide), Hlen.out, ← Htd.out, ← Hq.out]
        have Hr := Lib.hid hr; clear hr hl
        have hbf := Hb1.out.trans (hb.mono hsz1)
        have Hbf := Lib.hid hbf; clear hbf hb
        by_cases hk : a < k
        · have hki : (a : Int) < (k : Int) := by omega
          go_wp2_with fail
          go_ret
          exact ⟨by rw [Hr.out, if_pos hk]; rfl, Hbf.out⟩
        · have hki : ¬ ((a : Int) < (k : Int)) := by omega
          go_wp2_with fail
          go_ret
          exact ⟨by rw [Hr.out, if_neg hk]; rfl, Hbf.out⟩
  · have hz : ((n : Int) != (k : Int) + (m : Int)) = true := by simp; omega
    have hr : rightX k m rs = 2 := by rw [rightX, if_pos (by rw [Hlen.out]; exact hnk)]
    have Hr := Lib.hid hr; clear hr hnk
    go_enter Tryz.func31, Tryz.ntmps31
    go_wp2_with fail
    refine ht.mono ?_; clear ht; rintro e w1 ⟨⟨B, q, d, rfl, hs⟩, hb1⟩
    clear hs
    go_wp2_with fail
    go_ret
    exact ⟨by rw [Hr.out]; rfl, hb1⟩
end Go.Proofs.YtgoomiimlfdcmaaGreat

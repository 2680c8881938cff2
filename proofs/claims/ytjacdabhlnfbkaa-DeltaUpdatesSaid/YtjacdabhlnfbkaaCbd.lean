/-
  Contracts of the document's Same of layer 5, and of the statements' own sum of rows. No condition.
-/
import Derived.Test.YtjacdabhlnfbkaaCba
import Derived.Test.YtjacdabhlnfbkaaGd
namespace Go.Proofs.Ytjacdabhlnfbkaa
open Go.RowKit Go.Proofs
set_option linter.unusedVariables false

set_option maxRecDepth 20000 in
set_option maxHeartbeats 1600000 in
theorem rsame5_any (A : Option Addr) (n c : Nat) (rs : List (List UInt8)) (A2 : Option Addr) (n2 c2 : Nat) (qs : List (List UInt8)) (w : World) (h : Gr w A n c rs) (h2 : Gr w A2 n2 c2 qs) :
    Calls Try.prog 16 #[.slice A n c, .slice A2 n2 c2] w fun e w' => e = .returned (.bool (decide (rs = qs))) ∧ Below w.heap.size w w' := by
  have hlim := h.lim
  have hlim2 := h2.lim
  have hlen := h.len
  have hlen2 := h2.len
  unfold maxLen at hlim hlim2
  have H := Lib.hid h; clear h
  have H2 := Lib.hid h2; clear h2
  have Hlen := Lib.hid hlen; clear hlen
  have Hlen2 := Lib.hid hlen2; clear hlen2
  by_cases hn : n = n2
  · subst hn
    go_enter Try.func16, Try.ntmps16
    go_wp2_with fail
    go_loopw [5] (fun i wr => ∃ j : Nat, j ≤ n ∧ i = .int .i64 (j : Int) ∧ (∀ x, x < j → rs.getD x [] = qs.getD x []) ∧ Below w.heap.size w wr) (fun i _ => n - (intOf i).toNat)
    case atStart => exact ⟨0, by omega, rfl, fun j hj => absurd hj (by omega), Below.refl _ _⟩
    case round =>
      obtain ⟨j, hj, rfl, hall, hb⟩ := hrel
      have Hall := Lib.hid hall; clear hall
      by_cases hlt : j < n
      · obtain ⟨b, o, rfl, hc⟩ := (H.out.later hb).at_ (by omega)
        obtain ⟨A1, c1, hc1, hs1⟩ := hc j _ (H.out.get hlt)
        obtain ⟨b2, o2, rfl, hcc⟩ := (H2.out.later hb).at_ (by omega)
        obtain ⟨A3, c3, hc3, hs3⟩ := hcc j _ (H2.out.get hlt)
        obtain ⟨r, hr⟩ : ∃ r, r = rs.getD j [] := ⟨_, rfl⟩
        obtain ⟨q, hq⟩ : ∃ q, q = qs.getD j [] := ⟨_, rfl⟩
        rw [← hr] at hc1 hs1
        rw [← hq] at hc3 hs3
        have k1 : ∀ u, (convert 22 9 (.slice A1 r.length c1)).run Try.prog (wr.drewN u) = .ok (.string (bstr r)) (wr.drewN u) := fun u => str_of (hs1.drewN u)
        have k3 : ∀ u, (convert 22 9 (.slice A3 q.length c3)).run Try.prog (wr.drewN u) = .ok (.string (bstr q)) (wr.drewN u) := fun u => str_of (hs3.drewN u)
        clear hc hcc hs1 hs3
        have Hr := Lib.hid hr; clear hr
        have Hq := Lib.hid hq; clear hq
        have hji : (j : Int) < (n : Int) := by omega
        by_cases heq : r = q
        · have hz : ((bstr r).toList == (bstr q).toList) = true := by rw [bstr_toList, bstr_toList]; simpa using heq
          have Heq := Lib.hid heq; clear heq
          go_wp2_with fail
          go_quiet (fail)
          go_wp2_with fail
          go_roundw
          case rel => exact ⟨j + 1, by omega, by go_num, fun x hx => by
            by_cases hxj : x = j
            · subst hxj
              rw [← Hr.out, ← Hq.out, Heq.out]
            · exact Hall.out x (by omega), below_drewN hb nq⟩
          case measure => simp [intOf]; omega
        · have hz : ((bstr r).toList == (bstr q).toList) = false := by rw [bstr_toList, bstr_toList]; simpa using heq
          have Heq := Lib.hid heq; clear heq
          go_wp2_with fail
          go_quiet (fail)
          go_wp2_with fail
          go_ret
          have : decide (rs = qs) = false := decide_eq_false fun hh => Heq.out (by rw [Hr.out, Hq.out, hh])
          exact ⟨by rw [this]; rfl, below_drewN hb nq⟩
      · obtain rfl : j = n := by omega
        go_wp2_with fail
        go_ret
        have : decide (rs = qs) = true := decide_eq_true (by
          apply List.ext_getElem
          · rw [Hlen.out, Hlen2.out]
          · intro x h1 h2
            have := Hall.out x (by rw [← Hlen.out]; exact h1)
            simpa [h1, h2] using this)
        exact ⟨by rw [this]; rfl, hb⟩
  · have hz : ((n : Int) != (n2 : Int)) = true := by simp; omega
    have hd : decide (rs = qs) = false := decide_eq_false fun hh => hn (by rw [← Hlen.out, ← Hlen2.out, hh])
    have Hd := Lib.hid hd; clear hd hn
    go_enter Try.func16, Try.ntmps16
    go_wp2_with fail
    go_ret
    exact ⟨by rw [Hd.out]; rfl, Below.refl _ _⟩

/-- Two rows' sum, as far as both go. -/
def addL (a b : List UInt8) : List UInt8 := List.zipWith (· ^^^ ·) a b
theorem addL_length (a b : List UInt8) : (addL a b).length = min a.length b.length := by simp [addL]

end Go.Proofs.Ytjacdabhlnfbkaa

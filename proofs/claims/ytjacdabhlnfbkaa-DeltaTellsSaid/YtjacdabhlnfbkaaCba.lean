/-
  Contracts of the document's answers of layer 5: May, Factor, Row, Even, and of the statements' own Few. No condition but bounds.
-/
import Derived.Test.YtjacdabhlnfbkaaCad
import Derived.BigQuiet
namespace Go.Proofs.Ytjacdabhlnfbkaa
open Go.RowKit Go.Proofs
set_option linter.unusedVariables false

set_option maxRecDepth 20000 in
set_option maxHeartbeats 800000 in
theorem rmay_any (k m : Int) (hk : -9223372036854775808 ≤ k ∧ k < 9223372036854775808) (hm : -9223372036854775808 ≤ m ∧ m < 9223372036854775808) (w : World) :
    Calls Try.prog 9 #[.int .i64 k, .int .i64 m] w fun e w' => e = .returned (.bool (mayB k m)) ∧ w' = w := by
  obtain ⟨hk1, hk2⟩ := hk
  obtain ⟨hm1, hm2⟩ := hm
  by_cases h1 : 1 ≤ k
  · by_cases h2 : 1 ≤ m
    · by_cases h4 : k ≤ 255
      · by_cases h3 : m ≤ 255 - k
        · rw [mayB_t (by omega)]
          go_enter Try.func9, Try.ntmps9
          go_wp2_with fail
          go_ret
          exact ⟨rfl, rfl⟩
        · rw [mayB_f (by omega)]
          go_enter Try.func9, Try.ntmps9
          go_wp2_with fail
          go_ret
          exact ⟨rfl, rfl⟩
      · rw [mayB_f (by omega)]
        go_enter Try.func9, Try.ntmps9
        go_wp2_with fail
        go_ret
        exact ⟨rfl, rfl⟩
    · rw [mayB_f (by omega)]
      go_enter Try.func9, Try.ntmps9
      go_wp2_with fail
      go_ret
      exact ⟨rfl, rfl⟩
  · rw [mayB_f (by omega)]
    go_enter Try.func9, Try.ntmps9
    go_wp2_with fail
    go_ret
    exact ⟨rfl, rfl⟩

theorem rdiv_at (z : Int) (v : UInt8) (hz : z = (v.toNat : Int)) (h0 : v ≠ 0) (w : World) :
    Calls Try.prog 53 #[.int .u8 1, .int .u8 z] w fun e w' => e = .returned (.tuple #[.int .u8 ((ginv v).toNat : Int), .int .i64 0]) ∧ w' = w := by
  subst hz
  have hh := rdiv_any 1 v w
  rw [divV, if_neg h0, show gd 1 v = ginv v from one_gm _] at hh
  exact hh
theorem xor_wrap (i j : Nat) : bits .xor .u8 (IntKind.u8.wrap (i : Int)) (IntKind.u8.wrap (j : Int)) = ((UInt8.ofNat i ^^^ UInt8.ofNat j).toNat : Int) := by
  rw [← xor_b, IntKind.wrap_u8, IntKind.wrap_u8, UInt8.toNat_ofNat', UInt8.toNat_ofNat']
  simp
theorem ofNat_xor_ne {i j : Nat} (hi : i < 256) (hj : j < 256) (h : i ≠ j) : UInt8.ofNat i ^^^ UInt8.ofNat j ≠ 0 := fun e => h (ofNat_inj hi hj (ux_eq e))

set_option maxRecDepth 20000 in
set_option maxHeartbeats 800000 in
theorem rfactor_any (k i j : Nat) (hi : i ≤ 255) (hj : j < k) (hk : k ≤ 255) (w : World) :
    Calls Try.prog 31 #[.int .i64 (k : Int), .int .i64 (i : Int), .int .i64 (j : Int)] w fun e w' => e = .returned (.int .u8 ((facB k i j).toNat : Int)) ∧ w' = w := by
  by_cases hik : i < k
  · by_cases hij : i = j
    · subst hij
      rw [facB, if_pos hik, if_pos rfl]
      go_enter Try.func31, Try.ntmps31
      go_wp2_with fail
      go_ret
      exact ⟨rfl, rfl⟩
    · rw [facB, if_pos hik, if_neg hij]
      have hq : (((i : Nat) : Int) == (j : Int)) = false := by simp; omega
      go_enter Try.func31, Try.ntmps31
      go_wp2_with fail
      go_ret
      exact ⟨rfl, rfl⟩
  · rw [facB, if_neg hik]
    have hne := ofNat_xor_ne (i := i) (j := j) (by omega) (by omega) (by omega)
    have hx := xor_wrap i j
    have hwi : IntKind.u8.wrap (i : Int) = (i : Int) := by rw [IntKind.wrap_u8]; omega
    have hwj : IntKind.u8.wrap (j : Int) = (j : Int) := by rw [IntKind.wrap_u8]; omega
    obtain ⟨v, hv⟩ : ∃ v, v = UInt8.ofNat i ^^^ UInt8.ofNat j := ⟨_, rfl⟩
    rw [← hv] at hne hx ⊢
    have Hne := Lib.hid hne; clear hne
    have Hx := Lib.hid hx; clear hx hv
    have Hw := Lib.hid (And.intro hwi hwj); clear hwi hwj
    go_enter Try.func31, Try.ntmps31
    go_wp2_with fail
    refine (rdiv_at _ v ?zz Hne.out _).mono ?_
    case zz => first | exact Hx.out | (rw [← Hx.out, Hw.out.1, Hw.out.2])
    rintro e w1 ⟨rfl, rfl⟩
    go_wp2_with fail
    go_ret
    exact ⟨rfl, rfl⟩

theorem drewN_more {w wr : World} {j : Nat} (h : ∃ k, wr = w.drewN k) : ∃ k, wr.drewN j = w.drewN k := by
  obtain ⟨k, rfl⟩ := h
  exact ⟨k + j, by rw [drewN_add]⟩
set_option maxRecDepth 20000 in
set_option maxHeartbeats 800000 in
theorem reven_any (A : Option Addr) (n c : Nat) (rs : List (List UInt8)) (k : Int) (w : World) (h : Gr w A n c rs) :
    Calls Try.prog 41 #[.slice A n c, .int .i64 k] w fun e w' => e = .returned (.bool (evenB rs k)) ∧ Below w.heap.size w w' := by
  have hlim := h.lim
  have hlen := h.len
  unfold maxLen at hlim
  have H := Lib.hid h; clear h
  have Hlen := Lib.hid hlen; clear hlen
  go_enter Try.func41, Try.ntmps41
  go_wp2_with fail
  go_loopw [5] (fun i wr => ∃ j : Nat, j ≤ n ∧ i = .int .i64 (j : Int) ∧ (∀ x, x < j → (rs.getD x []).length = (rs.getD 0 []).length) ∧ Below w.heap.size w wr) (fun i _ => n - (intOf i).toNat)
  case atStart => exact ⟨0, by omega, rfl, fun j hj => absurd hj (by omega), Below.refl _ _⟩
  case round =>
    obtain ⟨j, hj, rfl, hall, hb⟩ := hrel
    have Hall := Lib.hid hall; clear hall
    by_cases hlt : j < n
    · obtain ⟨b, o, rfl, hc⟩ := (H.out.later hb).at_ (by omega)
      obtain ⟨A1, c1, hc1, hs1⟩ := hc j _ (H.out.get hlt)
      obtain ⟨A0, c0, hc0, hs0⟩ := hc 0 _ (H.out.get (by omega))
      rw [Nat.add_zero] at hc0
      obtain ⟨L1, hL1⟩ : ∃ L, L = (rs.getD j []).length := ⟨_, rfl⟩
      obtain ⟨L0, hL0⟩ : ∃ L, L = (rs.getD 0 []).length := ⟨_, rfl⟩
      rw [← hL1] at hc1 hs1
      rw [← hL0] at hc0 hs0
      have hm1 := hs1.lim
      have hm0 := hs0.lim
      unfold maxLen at hm1 hm0
      clear hc hs1 hs0
      have HL1 := Lib.hid hL1; clear hL1
      have HL0 := Lib.hid hL0; clear hL0
      have hji : (j : Int) < (n : Int) := by omega
      have h0i : (0 : Int) < (n : Int) := by omega
      by_cases heq : L1 = L0
      · have hz : (((L1 : Int) != (L0 : Int))) = false := by simp [heq]
        have Heq := Lib.hid heq; clear heq
        go_wp2_with fail
        go_quiet (fail)
        go_wp2_with fail
        go_roundw
        case rel => exact ⟨j + 1, by omega, by go_num, fun x hx => by
          by_cases hxj : x = j
          · subst hxj
            rw [← HL1.out, ← HL0.out, Heq.out]
          · exact Hall.out x (by omega), below_drewN hb nq⟩
        case measure => simp [intOf]; omega
      · have hz : (((L1 : Int) != (L0 : Int))) = true := by simp; omega
        have Heq := Lib.hid heq; clear heq
        go_wp2_with fail
        go_quiet (fail)
        go_wp2_with fail
        go_ret
        have : levelB rs = false := decide_eq_false fun hh => Heq.out (by rw [HL1.out, HL0.out]; exact hh j (by rw [Hlen.out]; exact hlt))
        exact ⟨by rw [evenB, this, Bool.and_false]; rfl, below_drewN hb nq⟩
    · obtain rfl : j = n := by omega
      have hl : levelB rs = true := decide_eq_true fun x hx => Hall.out x (by rw [← Hlen.out]; exact hx)
      by_cases hn : (j : Int) = k
      · have hz : ((j : Int) == k) = true := by simpa using hn
        have he : evenB rs k = true := by rw [evenB, hl, Hlen.out, decide_eq_true hn]; rfl
        have He := Lib.hid he; clear he hn
        go_wp2_with fail
        go_ret
        exact ⟨by rw [He.out]; rfl, hb⟩
      · have hz : ((j : Int) == k) = false := by simpa using hn
        have he : evenB rs k = false := by rw [evenB, hl, Hlen.out, decide_eq_false hn]; rfl
        have He := Lib.hid he; clear he hn
        go_wp2_with fail
        go_ret
        exact ⟨by rw [He.out]; rfl, hb⟩

/-- What Few answers: true of few rows, and short ones alone. -/
def RetFew (n : Nat) (rs : List (List UInt8)) (w : World) (e : Ending) (w' : World) : Prop := w' = w ∧ ∃ b, e = .returned (.bool b) ∧ (b = true → n ≤ 260 ∧ ∀ r ∈ rs, r.length ≤ 3000)
set_option maxRecDepth 20000 in
set_option maxHeartbeats 800000 in
theorem few5_any (x : Int) (A : Option Addr) (n c : Nat) (rs : List (List UInt8)) (w : World) (h : Gr w A n c rs) :
    Calls Try.prog 10 #[.int .i64 x, .slice A n c] w (RetFew n rs w) := by
  have hlim := h.lim
  have hlen := h.len
  unfold maxLen at hlim
  have H := Lib.hid h; clear h
  have Hlen := Lib.hid hlen; clear hlen
  go_enter Try.func10, Try.ntmps10
  go_wp2_with fail
  go_loopw [5, 6] (fun z i wr => ∃ (j : Nat) (y : Int), j ≤ n ∧ j ≤ 300 ∧ i = .int .i64 (j : Int) ∧ z = .int .i64 y ∧ y ≤ 3000 ∧ 3000 - 4000 * (j : Int) ≤ y ∧ (∀ x, x < j → (min (rs.getD x []).length 4000 : Nat) + y ≤ 3000) ∧ wr = w) (fun _ i _ => 300 - (intOf i).toNat)
  case atStart => exact ⟨0, 3000, by omega, by omega, rfl, rfl, by omega, by omega, fun j hj => absurd hj (by omega), rfl⟩
  case round =>
    obtain ⟨j, y, hj, hj3, rfl, rfl, hy1, hy2, hall, rfl⟩ := hrel
    have Hall := Lib.hid hall; clear hall
    by_cases hlt : j < n
    · by_cases hlt3 : j < 300
      · obtain ⟨b, o, rfl, hc⟩ := H.out.at_ (by omega)
        obtain ⟨A1, c1, hc1, hs1⟩ := hc j _ (H.out.get hlt)
        obtain ⟨L1, hL1⟩ : ∃ L, L = (rs.getD j []).length := ⟨_, rfl⟩
        rw [← hL1] at hc1 hs1
        have hm1 := hs1.lim
        unfold maxLen at hm1
        clear hc hs1
        have HL1 := Lib.hid hL1; clear hL1
        rcases Nat.lt_or_ge L1 4000 with hq | hq
        · have hmin : min (L1 : Int) 4000 = (L1 : Int) := by omega
          go_wp2_with fail
          go_roundw
          case rel => exact ⟨j + 1, y - (L1 : Int), by omega, by omega, by go_num, by first | rfl | (congr 1; omega), by omega, by omega, fun x hx => by
            by_cases hxj : x = j
            · subst hxj
              rw [← HL1.out]
              omega
            · have := Hall.out x (by omega)
              omega, trivial⟩
          case measure => simp [intOf]; omega
        · have hmin : min (L1 : Int) 4000 = 4000 := by omega
          go_wp2_with fail
          go_roundw
          case rel => exact ⟨j + 1, y - 4000, by omega, by omega, by go_num, by first | rfl | (congr 1; omega), by omega, by omega, fun x hx => by
            by_cases hxj : x = j
            · subst hxj
              rw [← HL1.out]
              omega
            · have := Hall.out x (by omega)
              omega, trivial⟩
          case measure => simp [intOf]; omega
      · have hbig : ¬ ((n : Int) ≤ 260) := by omega
        go_wp2_with fail
        go_ret
        exact ⟨rfl, false, rfl, fun h => by cases h⟩
    · obtain rfl : j = n := by omega
      by_cases h260 : j ≤ 260
      · by_cases hy0 : 0 ≤ y
        · go_wp2_with fail
          go_ret
          refine ⟨rfl, true, rfl, fun _ => ⟨h260, fun r hr => ?_⟩⟩
          obtain ⟨i, hi, rfl⟩ := List.mem_iff_getElem.1 hr
          have := Hall.out i (by rw [← Hlen.out]; exact hi)
          rw [show rs.getD i [] = rs[i] from by simp [hi]] at this
          omega
        · go_wp2_with fail
          go_ret
          exact ⟨rfl, false, rfl, fun h => by cases h⟩
      · go_wp2_with fail
        go_ret
        exact ⟨rfl, false, rfl, fun h => by cases h⟩
end Go.Proofs.Ytjacdabhlnfbkaa

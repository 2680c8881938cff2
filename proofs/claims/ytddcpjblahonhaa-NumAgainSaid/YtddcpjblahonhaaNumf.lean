/-
  The contract of the document's answer Var: it answers 'varR'.
-/
import Derived.Test.YtddcpjblahonhaaNuma
import Derived.Test.YtddcpjblahonhaaMath
namespace Go.Proofs.Ytddcpjblahonhaa
open Go.RowKit
set_option linter.unusedVariables false

set_option maxHeartbeats 400000 in
theorem rvar_out (A : Option Addr) (n c : Nat) (l : List UInt8) (at_ : Int) (w : World) (h : Sl w 1 A n c (cells l)) (ha : ¬ (0 ≤ at_ ∧ at_ ≤ n)) :
    Calls Try.prog 15 #[.slice A n c, .int .i64 at_] w fun e w' => e = .returned (.tuple #[.int .u64 ((varR l at_).1 : Nat), .int .i64 ((varR l at_).2.1 : Nat), .int .i64 ((varR l at_).2.2 : Nat)]) ∧ w = w' := by
  have hn := h.lim
  unfold maxLen at hn
  have hl := h.len
  rw [cells_length, Nat.mul_one] at hl
  rw [varR_out l at_ (by rw [hl]; exact ha)]
  by_cases h0 : at_ < 0
  · clear ha hl
    go_enter Try.func15, Try.ntmps15
    go_wp2_with fail
    go_ret3
    exact ⟨rfl, rfl⟩
  · have h1 : at_ > n := by omega
    clear ha hl
    go_enter Try.func15, Try.ntmps15
    go_wp2_with fail
    go_ret3
    exact ⟨rfl, rfl⟩

set_option maxHeartbeats 1000000 in
set_option maxRecDepth 20000 in
theorem rvar_in (A : Option Addr) (n c : Nat) (l : List UInt8) (a : Nat) (w : World) (h : Sl w 1 A n c (cells l)) (ha : a ≤ n) :
    Calls Try.prog 15 #[.slice A n c, .int .i64 (a : Int)] w fun e w' => e = .returned (.tuple #[.int .u64 ((varR l a).1 : Nat), .int .i64 ((varR l a).2.1 : Nat), .int .i64 ((varR l a).2.2 : Nat)]) ∧ w = w' := by
  have hn := h.lim
  unfold maxLen at hn
  have hlen0 := h.len
  rw [cells_length, Nat.mul_one] at hlen0
  have Hl := Lib.hid hlen0; clear hlen0
  have hc : a < n → ∃ b o, A = some ⟨b, o, none⟩ ∧ ∀ j u, (cells l)[j]? = some u → w.cell? ⟨b, o + j, none⟩ = some u := fun hh => h.at_ (k := 0) (by omega)
  have Hc := Lib.hid hc; clear hc
  have ha' : ¬ (a : Int) > n := by omega
  go_enter Try.func15, Try.ntmps15
  go_wp2_with fail
  go_loop [7, 8, 9] (fun v q i => ∃ (k y z : Nat), k ≤ n - a ∧ k ≤ 9 ∧ i = .int .i64 (k : Int) ∧ v = .int .u64 (y : Int) ∧ q = .int .u64 (z : Int) ∧ z = 2 ^ (7 * k) ∧ y < 2 ^ (7 * k) ∧ y < 2 ^ 64 ∧ vdec 0 0 (l.drop a) = vdec k y (l.drop (a + k))) (fun _ _ i => n - a - (intOf i).toNat)
  case atStart => exact ⟨0, 0, 1, by omega, by omega, rfl, rfl, rfl, rfl, by omega, by omega, rfl⟩
  case round =>
    obtain ⟨k, y, z, hk, hk9, rfl, rfl, rfl, hz, hy, hy64, hv⟩ := hrel
    have hk10 : (k : Int) < 10 := by omega
    have hz63 : z ≤ 2 ^ 63 := by rw [hz]; exact Nat.pow_le_pow_right (by omega) (by omega)
    have Hzk := Lib.hid hz; clear hz
    have Hy := Lib.hid hy; clear hy
    by_cases hlt : k < n - a
    · obtain ⟨b, o, rfl, hc⟩ := Hc.out (by omega)
      obtain ⟨u, hu⟩ : ∃ u, l[a + k]? = some u := ⟨_, List.getElem?_eq_getElem (by rw [Hl.out]; omega)⟩
      have hcell : w.cell? ⟨b, o + (a + k), none⟩ = some (.int .u8 (u.toNat : Int)) := hc _ _ (by simp [cells, hu, bv])
      have hd : l.drop (a + k) = u :: l.drop (a + (k + 1)) := by
        have hlt' : a + k < l.length := by rw [Hl.out]; omega
        rw [List.drop_eq_getElem_cons hlt', Nat.add_assoc]
        rw [List.getElem?_eq_getElem hlt'] at hu
        injection hu with hu
        rw [hu]
      rw [hd] at hv
      have Hv := Lib.hid hv; clear hv
      clear hd hu
      have hub := u.toNat_lt
      generalize hx : u.toNat = x at *
      have Hx := Lib.hid hx; clear hx
      have hge : ¬ (k : Int) ≥ n - a := by omega
      have hend : ∀ e, vdec k y (u :: l.drop (a + (k + 1))) = (0, 0, e + 1) → varR l (a : Int) = (0, 0, e + 1) := fun e he => by
        rw [varR_in l a (by rw [Hl.out]; omega) 0 0 (e + 1) (Hv.out.trans he)]
        rfl
      have Hend := Lib.hid hend; clear hend
      by_cases h9 : k = 9 ∧ 1 < x
      · obtain ⟨h9, h1⟩ := h9
        have Hz := Lib.hid (Hend.out 2 (by rw [vdec, Hx.out, if_pos (Or.inl ⟨h9, h1⟩)]))
        have h9t : ((k : Int) == 9) = true := by simp; omega
        have h1' : (x : Int) > 1 := by omega
        clear h9
        go_wp2_with fail
        go_ret3
        rw [Hz.out]
        exact ⟨rfl, rfl⟩
      · by_cases h0 : 0 < k ∧ x = 0
        · obtain ⟨h0, rfl⟩ := h0
          have Hz := Lib.hid (Hend.out 2 (by rw [vdec, Hx.out, if_pos (Or.inr ⟨h0, rfl⟩)]))
          clear h9
          by_cases hk9' : k = 9
          · have h9t : ((k : Int) == 9) = true := by simp; omega
            clear hk9'
            go_wp2_with fail
            go_ret3
            rw [Hz.out]
            exact ⟨rfl, rfl⟩
          · have h9f : ((k : Int) == 9) = false := by simp; omega
            clear hk9'
            go_wp2_with fail
            go_ret3
            rw [Hz.out]
            exact ⟨rfl, rfl⟩
        · have hno : ¬ ((k = 9 ∧ 1 < x) ∨ (0 < k ∧ x = 0)) := fun h' => h'.elim h9 h0
          obtain ⟨-, ho2, ho3⟩ := or_seven_mod y x k Hy.out (by omega)
          have Ho2 := Lib.hid ho2; clear ho2
          have Ho1 := Lib.hid (add_seven y x z k Hzk.out ho3)
          have Ho3 := Lib.hid ho3; clear ho3
          have Hno := Lib.hid hno; clear hno
          by_cases hx128 : x < 128
          · have Hz : Hid (varR l (a : Int) = (y + x % 128 * 2 ^ (7 * k), a + (k + 1), 0)) := Lib.hid (by
              rw [varR_in l a (by rw [Hl.out]; omega) _ _ 0 (Hv.out.trans (by rw [vdec, Hx.out, if_neg Hno.out, if_pos hx128]))]
              rfl)
            by_cases hk9' : k = 9
            · have h9t : ((k : Int) == 9) = true := by simp; omega
              have h1' : ¬ (x : Int) > 1 := by omega
              have h0' : ((x : Int) == 0) = false := by simp; omega
              have hk0 : 0 < k := by omega
              clear h9 h0 hk9'
              go_wp2_with fail
              go_ret3
              rw [Hz.out]
              exact ⟨ret3_eq Ho1.out (by show (a : Int) + k + 1 = ((a + (k + 1) : Nat) : Int); omega) rfl, rfl⟩
            · have h9f : ((k : Int) == 9) = false := by simp; omega
              clear h9 hk9'
              by_cases hk0 : 0 < k
              · have h0' : ((x : Int) == 0) = false := by simp; omega
                clear h0
                go_wp2_with fail
                go_ret3
                rw [Hz.out]
                exact ⟨ret3_eq Ho1.out (by show (a : Int) + k + 1 = ((a + (k + 1) : Nat) : Int); omega) rfl, rfl⟩
              · clear h0
                go_wp2_with fail
                go_ret3
                rw [Hz.out]
                exact ⟨ret3_eq Ho1.out (by show (a : Int) + k + 1 = ((a + (k + 1) : Nat) : Int); omega) rfl, rfl⟩
          · have Hz : Hid (vdec 0 0 (l.drop a) = vdec (k + 1) (y + x % 128 * 2 ^ (7 * k)) (l.drop (a + (k + 1)))) := Lib.hid (by
              rw [Hv.out, vdec, Hx.out, if_neg Hno.out, if_neg hx128])
            have h9f : ((k : Int) == 9) = false := by simp; omega
            have hk8 : k < 9 := by omega
            clear h9
            have Ho4 := Lib.hid (mul_seven z k Hzk.out hk8)
            by_cases hk0 : 0 < k
            · have h0' : ((x : Int) == 0) = false := by simp; omega
              clear h0
              go_wp2_with fail
              go_round
              case rel => exact ⟨k + 1, y + x % 128 * 2 ^ (7 * k), 2 ^ (7 * (k + 1)), by omega, by omega, by go_num, by rw [Ho1.out], by rw [Ho4.out], rfl, Ho2.out, Ho3.out, Hz.out⟩
              case measure => simp [intOf]; omega
            · clear h0
              go_wp2_with fail
              go_round
              case rel => exact ⟨k + 1, y + x % 128 * 2 ^ (7 * k), 2 ^ (7 * (k + 1)), by omega, by omega, by go_num, by rw [Ho1.out], by rw [Ho4.out], rfl, Ho2.out, Ho3.out, Hz.out⟩
              case measure => simp [intOf]; omega
    · have Hz : Hid (varR l (a : Int) = (0, 0, 5)) := Lib.hid (by
        rw [varR_in l a (by rw [Hl.out]; omega) 0 0 5 (by rw [hv, List.drop_of_length_le (by rw [Hl.out]; omega)]; rfl)]
        rfl)
      clear hv
      have hge : (k : Int) ≥ n - a := by omega
      go_wp2_with fail
      go_ret3
      rw [Hz.out]
      exact ⟨rfl, rfl⟩

theorem rvar_any (A : Option Addr) (n c : Nat) (l : List UInt8) (at_ : Int) (w : World) (h : Sl w 1 A n c (cells l)) :
    Calls Try.prog 15 #[.slice A n c, .int .i64 at_] w fun e w' => e = .returned (.tuple #[.int .u64 ((varR l at_).1 : Nat), .int .i64 ((varR l at_).2.1 : Nat), .int .i64 ((varR l at_).2.2 : Nat)]) ∧ w = w' := by
  by_cases ha : 0 ≤ at_ ∧ at_ ≤ n
  · obtain ⟨a, rfl⟩ := Int.eq_ofNat_of_zero_le ha.1
    exact rvar_in A n c l a w h (by omega)
  · exact rvar_out A n c l at_ w h ha
end Go.Proofs.Ytddcpjblahonhaa

/-
  Contracts of package field at a field whose tables are made (nothing but draws), and at nil; matrix.made. No condition.
-/
import Derived.Test.YtccnoflgbopjlaaFdg
namespace Go.Proofs.Ytccnoflgbopjlaa
open Go.RowKit
set_option linter.unusedVariables false

set_option maxRecDepth 20000 in
set_option maxHeartbeats 800000 in
theorem made1_any (F T : Nat) (w : World) (h : Fld1 w F T) :
    Calls Try.prog 57 #[.pointer (some ⟨F, 0, none⟩)] w fun e w' => e = .returned (.pointer (some ⟨T, 0, none⟩)) ∧ ∃ k, w' = w.drewN k := by
  have hmf : ∀ (fn : Fn) (first cap : Array Value) (w : World), (Instr.makeFunc fn first cap).run Try.prog w = .ok (.func fn first cap) w := fun _ _ _ _ => rfl
  have hnot : ∀ (x : Bool) (w : World), (Op.unary .not (.bool x)).run Try.prog w = .ok (.bool (!x)) w := fun _ _ => rfl
  have hdo : ∀ k, Calls Try.prog 65 #[.pointer (some ⟨T, 0, none⟩), .func (.func 66) #[.pointer (some ⟨T, 0, none⟩)] #[]] (w.drewN k) fun e w' => e = .returned (.tuple #[]) ∧ w' = w.drewN k := by
    intro k
    have H := Lib.hid (show Tabs (w.drewN k) T 1 0 pwF exF from h.tabs)
    generalize hv : w.drewN k = v at H
    have Hv := Lib.hid hv; clear hv
    clear h
    go_enter Try.func65, Try.ntmps65
    go_wp2_with (go_at_call 69; refine (load_done ⟨T, 0, none⟩ 1 _ H.out.cell0).mono ?_; rintro e w' ⟨rfl, rfl⟩)
    go_wp2_with fail
    go_end0
    exact ⟨rfl, rfl⟩
  have hc := h.cell
  have Hdo := Lib.hid hdo; clear hdo
  clear h
  go_enter Try.func57, Try.ntmps57
  go_wp2_with fail
  go_region_with (go_at_call 65; refine (Hdo.out 1).mono ?_; rintro e w1 ⟨rfl, rfl⟩)
  all_goals
    go_wp2_with fail
    go_ret
    exact ⟨rfl, 1, rfl⟩

theorem drewN_add (w : World) (a b : Nat) : (w.drewN a).drewN b = w.drewN (a + b) := World.drewN_drewN w a b

set_option maxRecDepth 20000 in
set_option maxHeartbeats 800000 in
theorem mul1_any (F T : Nat) (u v : UInt8) (w : World) (h : Fld1 w F T) :
    Calls Try.prog 52 #[.pointer (some ⟨F, 0, none⟩), .int .u8 (u.toNat : Int), .int .u8 (v.toNat : Int)] w fun e w' => e = .returned (.int .u8 ((gm u v).toNat : Int)) ∧ ∃ k, w' = w.drewN k := by
  have H := Lib.hid h; clear h
  go_enter Try.func52, Try.ntmps52
  go_wp2_with fail
  refine (made1_any F T _ H.out).mono ?_; rintro e w1 ⟨rfl, k1, rfl⟩
  go_wp2_with fail
  refine (product_any T u v _ (H.out.drewN k1).tabs).mono ?_; rintro e w2 ⟨rfl, k, rfl⟩
  go_wp2_with fail
  go_ret
  exact ⟨rfl, k1 + k, by first | rfl | rw [drewN_add]⟩

set_option maxRecDepth 20000 in
set_option maxHeartbeats 800000 in
theorem div1_any (F T : Nat) (u v : UInt8) (h0 : v ≠ 0) (w : World) (h : Fld1 w F T) :
    Calls Try.prog 50 #[.pointer (some ⟨F, 0, none⟩), .int .u8 (u.toNat : Int), .int .u8 (v.toNat : Int)] w fun e w' => e = .returned (.tuple #[.int .u8 ((gd u v).toNat : Int), .int .i64 0]) ∧ ∃ k, w' = w.drewN k := by
  have hv := v.toNat_lt
  have h0' : v.toNat ≠ 0 := fun e => h0 (UInt8.toNat_inj.1 e)
  have e1 : ((v.toNat : Int) == 0) = false := by simp; omega
  have H := Lib.hid h; clear h
  have H0 := Lib.hid h0; clear h0
  go_enter Try.func50, Try.ntmps50
  go_wp2_with fail
  refine (made1_any F T _ H.out).mono ?_; rintro e w1 ⟨rfl, k1, rfl⟩
  go_wp2_with fail
  refine (raised_any T v (-1) (by decide) (by decide) _ (H.out.drewN k1).tabs H0.out).mono ?_; rintro e w2 ⟨rfl, k2, rfl⟩
  rw [gz_inv v]
  go_wp2_with fail
  have hh := product_any T u (ginv v) ((w.drewN k1).drewN k2) ((H.out.drewN k1).drewN k2).tabs
  rw [drewN_add] at hh
  refine hh.mono ?_; clear hh; rintro e w3 ⟨rfl, k3, rfl⟩
  go_wp2_with fail
  go_ret2
  exact ⟨rfl, (k1 + k2) + k3, by first | rfl | rw [drewN_add]⟩
/-- The inverse of a byte that isn't 0. -/
theorem inv1_any (F T : Nat) (v : UInt8) (h0 : v ≠ 0) (w : World) (h : Fld1 w F T) :
    Calls Try.prog 50 #[.pointer (some ⟨F, 0, none⟩), .int .u8 1, .int .u8 (v.toNat : Int)] w fun e w' => e = .returned (.tuple #[.int .u8 ((ginv v).toNat : Int), .int .i64 0]) ∧ ∃ k, w' = w.drewN k := by
  have hh := div1_any F T 1 v h0 w h
  rwa [show gd 1 v = ginv v from one_gm _] at hh

set_option maxRecDepth 20000 in
set_option maxHeartbeats 1600000 in
theorem dot1_any (F T : Nat) (A : Option Addr) (n cp : Nat) (a : List UInt8) (A2 : Option Addr) (m cq : Nat) (b : List UInt8) (w : World) (h : Fld1 w F T) (ha : Sl w 1 A n cp (cells a)) (hb : Sl w 1 A2 m cq (cells b)) :
    Calls Try.prog 41 #[.pointer (some ⟨F, 0, none⟩), .slice A n cp, .slice A2 m cq] w fun e w' => e = .returned (.int .u8 ((dotS a b).toNat : Int)) ∧ ∃ k, w' = w.drewN k := by
  have hal := ha.len
  have hbl := hb.len
  rw [cells_length, Nat.mul_one] at hal hbl
  have hn := ha.lim
  have hm := hb.lim
  unfold maxLen at hn hm
  have Ha := Lib.hid ha; clear ha
  have Hb := Lib.hid hb; clear hb
  have Hal := Lib.hid hal; clear hal
  have Hbl := Lib.hid hbl; clear hbl
  rcases Nat.lt_or_ge m n with hq | hq
  all_goals
    go_enter Try.func41, Try.ntmps41
    go_wp2_with fail
    refine (made1_any F T _ h).mono ?_; rintro e w1' ⟨rfl, k1, rfl⟩
    have H1 := Lib.hid (h.drewN k1)
    have Hqa := Lib.hid (show Sl (w.drewN k1) 1 A n cp (cells a) from Ha.out.drewN k1)
    have Hqb := Lib.hid (show Sl (w.drewN k1) 1 A2 m cq (cells b) from Hb.out.drewN k1)
    obtain ⟨w1, hw1⟩ : ∃ w1, w1 = w.drewN k1 := ⟨_, rfl⟩
    rw [← hw1] at H1 Hqa Hqb ⊢
    have Hw1 := Lib.hid hw1; clear hw1
    go_wp2_with fail
    go_loopw [8, 19] (fun v i wr => ∃ (j : Nat) (y : UInt8), y = xs j (fun i => gm (a.getD i 0) (b.getD i 0)) ∧ j ≤ min n m ∧ i = .int .i64 (j : Int) ∧ v = .int .u8 (y.toNat : Int) ∧ ∃ k, wr = w1.drewN k) (fun _ i _ => min n m - (intOf i).toNat)
    case atStart => exact ⟨0, 0, rfl, by omega, rfl, rfl, 0, rfl⟩
    case round =>
      obtain ⟨j, y, hy, hj, rfl, rfl, hwr⟩ := hrel
      have hfw : Fld1 wr F T := by obtain ⟨k, rfl⟩ := hwr; exact H1.out.drewN k
      have hcw : ∀ p, wr.cell? p = w1.cell? p := by obtain ⟨k, rfl⟩ := hwr; exact fun p => rfl
      have Hfw := Lib.hid hfw; clear hfw
      have Hwr := Lib.hid hwr; clear hwr
      have Hcw := Lib.hid hcw; clear hcw
      have Hy := Lib.hid hy; clear hy
      by_cases hlt : j < min n m
      · have hja : j < a.length := by rw [Hal.out]; omega
        have hjb : j < b.length := by rw [Hbl.out]; omega
        have hjn : j < n := by omega
        have hjm : j < m := by omega
        obtain ⟨b1, o1, rfl, hc1⟩ := Hqa.out.at_ hjn
        obtain ⟨b2, o2, rfl, hc2⟩ := Hqb.out.at_ hjm
        have hcell1 := (Hcw.out _).trans (hc1 j _ (cells_get a j hja))
        have hcell2 := (Hcw.out _).trans (hc2 j _ (cells_get b j hjb))
        have Hc1 := Lib.hid hc1; clear hc1
        have Hc2 := Lib.hid hc2; clear hc2
        rw [bv] at hcell1 hcell2
        obtain ⟨u, hu⟩ : ∃ u, u = a[j] := ⟨_, rfl⟩
        obtain ⟨v, hv⟩ : ∃ v, v = b[j] := ⟨_, rfl⟩
        rw [← hu] at hcell1
        rw [← hv] at hcell2
        have Hu := Lib.hid hu; clear hu
        have Hv := Lib.hid hv; clear hv
        go_wp2_with fail
        go_quiet (first | (go_at_call 58; exact Calls.quiet_of (product_any T u v _ (Hfw.out.drewN _).tabs)))
        go_wp2_with fail
        go_roundw
        case rel =>
          refine ⟨j + 1, y ^^^ gm u v, ?_, by omega, by go_num, by rw [xor_b], ?_⟩
          · rw [xs, ← Hy.out, Hu.out, Hv.out]
            simp [List.getD_eq_getElem?_getD, hja, hjb]
          · obtain ⟨k, hk⟩ := Hwr.out
            exact ⟨k + nq, by rw [hk, World.drewN_drewN]⟩
        case measure => simp [intOf]; omega
      · obtain rfl : j = min n m := by omega
        go_wp2_with fail
        go_ret
        refine ⟨ret_b (by rw [Hy.out, dotS, Hal.out, Hbl.out]), ?_⟩
        obtain ⟨k, hk⟩ := Hwr.out
        exact ⟨k1 + k, by rw [hk, Hw1.out, drewN_add]⟩

set_option maxRecDepth 20000 in
set_option maxHeartbeats 800000 in
theorem mulnil_any (x y : Int) (w : World) :
    Calls Try.prog 52 #[.pointer none, .int .u8 x, .int .u8 y] w fun e w' => e = .returned (.int .u8 0) ∧ w' = w := by
  have hm : Calls Try.prog 57 #[.pointer none] w fun e w' => e = .returned (.pointer none) ∧ w' = w := by
    go_enter Try.func57, Try.ntmps57
    go_wp2_with fail
    go_ret
    exact ⟨rfl, rfl⟩
  go_enter Try.func52, Try.ntmps52
  go_wp2_with fail
  refine hm.mono ?_; clear hm; rintro e w1 ⟨rfl, rfl⟩
  go_wp2_with fail
  go_ret
  exact ⟨rfl, rfl⟩

theorem gm_11 : gm 1 1 = 1 := gm_one 1
set_option maxRecDepth 20000 in
set_option maxHeartbeats 800000 in
theorem mmade_any (F T : Nat) (w : World) (h : Fld w F T) :
    Calls Try.prog 37 #[.pointer (some ⟨F, 0, none⟩)] w (OnFld F T w (.bool true)) := by
  have hh := mul_any F T 1 1 w h
  rw [gm_11] at hh
  clear h
  go_enter Try.func37, Try.ntmps37
  go_wp2_with fail
  refine hh.mono ?_; clear hh; rintro e w1 ⟨rfl, h1, hf1⟩
  go_wp2_with fail
  go_ret
  exact ⟨rfl, h1, hf1⟩
set_option maxRecDepth 20000 in
set_option maxHeartbeats 800000 in
theorem mmade1_any (F T : Nat) (w : World) (h : Fld1 w F T) :
    Calls Try.prog 37 #[.pointer (some ⟨F, 0, none⟩)] w fun e w' => e = .returned (.bool true) ∧ ∃ k, w' = w.drewN k := by
  have hh := mul1_any F T 1 1 w h
  rw [gm_11] at hh
  clear h
  go_enter Try.func37, Try.ntmps37
  go_wp2_with fail
  refine hh.mono ?_; clear hh; rintro e w1 ⟨rfl, k, rfl⟩
  go_wp2_with fail
  go_ret
  exact ⟨rfl, k, rfl⟩
set_option maxRecDepth 20000 in
set_option maxHeartbeats 800000 in
theorem mmadenil_any (w : World) :
    Calls Try.prog 37 #[.pointer none] w fun e w' => e = .returned (.bool false) ∧ w' = w := by
  go_enter Try.func37, Try.ntmps37
  go_wp2_with fail
  refine (mulnil_any 1 1 _).mono ?_; rintro e w1 ⟨rfl, rfl⟩
  go_wp2_with fail
  go_ret
  exact ⟨rfl, rfl⟩
end Go.Proofs.Ytccnoflgbopjlaa

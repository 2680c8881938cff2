/-
  The document's map (layer 12): Run. No condition but bounds.
-/
import Derived.Test.YthkflghekgbgcaaDoorEbn
namespace Go.Proofs.YthkflghekgbgcaaDoor
open Go.RowKit Go.Proofs
set_option linter.unusedVariables false

set_option maxRecDepth 20000 in
set_option maxHeartbeats 1600000 in
theorem rmprun_any (X n : Nat) (f : Nat → Bool) (A : Option Addr) (z y : Int) (hy1 : -9223372036854775808 ≤ y) (hy2 : y < 9223372036854775808) (w : World) (h : Xp w X n f A) :
    Calls Tryd.prog 18 #[.pointer (some ⟨X, 0, none⟩), .int .i64 z, .int .i64 y] w fun e w' => e = .returned (.int .i64 (runD12 n f z y)) ∧ Below w.heap.size w w' := by
  have hh := rmpfree_any X n f A z w h
  have htop := h.top
  have hll : (plc n z.toNat f false).length ≤ n := plc_len_le
  have hup := plc_up (n := n) (a := z.toNat) (f := f) (t := false)
  have hmx := fun x hx => (plc_mem (n := n) (a := z.toNat) (f := f) (t := false) (i := x)).1 hx |>.2.1
  by_cases h1 : y < 1
  · rw [runD12, if_pos h1]
    obtain ⟨l, hl⟩ : ∃ l, l = plc n z.toNat f false := ⟨_, rfl⟩
    rw [← hl] at hh hll
    obtain ⟨q, hq⟩ : ∃ q, q = l.length := ⟨_, rfl⟩
    unfold RetNs at hh
    rw [← hq] at hh hll
    have Hq := Lib.hid hq
    clear h hl hq hup hmx
    go_enter Tryd.func18, Tryd.ntmps18
    go_wp2_with fail
    refine hh.mono ?_; clear hh; rintro e w1 ⟨A1, c1, rfl, ho, hb, -⟩
    have Hb := Lib.hid hb
    clear hb ho
    go_wp2_with fail
    go_loopw [8] (fun i wr => i = .int .i64 0 ∧ wr = w1) (fun _ _ => 0)
    case atStart => exact ⟨rfl, rfl⟩
    case round =>
      obtain ⟨rfl, rfl⟩ := hrel
      by_cases hq0 : (0 : Int) < (q : Int)
      · go_wp2_with fail
        go_ret
        exact ⟨rfl, Hb.out⟩
      · go_wp2_with fail
        go_ret
        exact ⟨rfl, Hb.out⟩
  · obtain ⟨m, rfl⟩ : ∃ m : Nat, y = (m : Int) := ⟨y.toNat, by omega⟩
    have hm1 : 1 ≤ m := by omega
    have hcode := run_code_z (n := n) (f := f) (z := z) (y := m) hm1
    obtain ⟨r, hr⟩ : ∃ r, r = runD12 n f z (m : Int) := ⟨_, rfl⟩
    obtain ⟨l, hl⟩ : ∃ l, l = plc n z.toNat f false := ⟨_, rfl⟩
    rw [← hl] at hh hll hup hcode hmx
    have Hmx := Lib.hid hmx
    clear hmx
    rw [← hr] at hcode ⊢
    obtain ⟨q, hq⟩ : ∃ q, q = l.length := ⟨_, rfl⟩
    unfold RetNs at hh
    rw [← hq] at hh hll
    have Hq := Lib.hid hq
    have Hup := Lib.hid hup
    have Hc := Lib.hid hcode
    clear h hl hq hup hr hcode
    go_enter Tryd.func18, Tryd.ntmps18
    go_wp2_with fail
    refine hh.mono ?_; clear hh; rintro e w1 ⟨A1, c1, rfl, ho, hb, -⟩
    have Hb := Lib.hid hb
    have Hs := Lib.hid ho.sl
    clear hb ho
    go_wp2_with fail
    go_loopw [8] (fun i wr => ∃ k : Nat, k ≤ q ∧ i = .int .i64 (k : Int) ∧ Below w1.heap.size w1 wr ∧ ∀ j, j < k → ¬ l.getD (j + (m - 1)) 0 = l.getD j 0 + (m - 1)) (fun i _ => q - (intOf i).toNat)
    case atStart => exact ⟨0, by omega, rfl, Below.refl _ _, fun j hj => absurd hj (by omega)⟩
    case round =>
      obtain ⟨k, hk, rfl, hbw, hno⟩ := hrel
      have Hbw := Lib.hid hbw
      have Hno := Lib.hid hno
      clear hno
      by_cases hgo : k + m ≤ q
      · have hkq : k < q := by omega
        obtain ⟨b, o, rfl, hc⟩ := (Hs.out.below hbw (Nat.le_refl _)).at_ hkq
        have hk1 : k < l.length := by rw [← Hq.out]; exact hkq
        have hk2 : k + (m - 1) < l.length := by rw [← Hq.out]; omega
        have hcell1 := hc k _ (ncells_get l k hk1)
        have hcell2 := hc (k + (m - 1)) _ (ncells_get l (k + (m - 1)) hk2)
        rw [show l[k]'hk1 = l.getD k 0 from by simp [hk1]] at hcell1
        rw [show l[k + (m - 1)]'hk2 = l.getD (k + (m - 1)) 0 from by simp [hk2]] at hcell2
        have hyes := fun e => run_doc_yes Hup.out (i := k) hm1 (by rw [← Hq.out]; exact hgo) e Hno.out
        obtain ⟨x1, hx1⟩ : ∃ x, x = l.getD k 0 := ⟨_, rfl⟩
        obtain ⟨x2, hx2⟩ : ∃ x, x = l.getD (k + (m - 1)) 0 := ⟨_, rfl⟩
        have hxl : x1 < n := by rw [hx1]; exact Hmx.out _ (up_mem hk1)
        rw [← hx1] at hcell1 hyes
        rw [← hx2] at hcell2 hyes
        have Hx1 := Lib.hid hx1
        have Hx2 := Lib.hid hx2
        have Hyes := Lib.hid hyes
        have hki : (k : Int) < (q : Int) := by omega
        have hmi : (m : Int) ≤ (q : Int) - (k : Int) := by omega
        have hm1i : (1 : Int) ≤ (m : Int) := by omega
        clear hc hx1 hx2 hyes hbw hk1 hk2
        have hw1 : IntKind.i64.wrap ((k : Int) + (m : Int)) = (k : Int) + (m : Int) := by rw [IntKind.wrap_i64]; omega
        have hw2 : IntKind.i64.wrap ((k : Int) + (m : Int) - 1) = (k : Int) + (m : Int) - 1 := by rw [IntKind.wrap_i64]; omega
        have hw3 : IntKind.i64.wrap ((x1 : Int) + (m : Int)) = (x1 : Int) + (m : Int) := by rw [IntKind.wrap_i64]; omega
        have hw4 : IntKind.i64.wrap ((x1 : Int) + (m : Int) - 1) = (x1 : Int) + (m : Int) - 1 := by rw [IntKind.wrap_i64]; omega
        have hwn : ((k : Int) + (m : Int) - 1).toNat = k + (m - 1) := by omega
        have hw5 : 0 ≤ (k : Int) + (m : Int) - 1 := by omega
        have hw6 : (k : Int) + (m : Int) - 1 < (q : Int) := by omega
        have Hkm := Lib.hid hgo
        have Hm1 := Lib.hid hm1
        by_cases he : x2 = x1 + (m - 1)
        · have hz : ((x2 : Int) == (x1 : Int) + (m : Int) - 1) = true := by simp; omega
          have hrx := Hc.out.one (Hyes.out he)
          have Hrx := Lib.hid hrx
          clear he hrx hgo hm1
          go_wp2_with fail
          go_quiet (fail)
          go_wp2_with fail
          go_ret
          exact ⟨by rw [Hrx.out]; rfl, Hb.out.trans ((dn12 Hbw.out _).mono Hb.out.size)⟩
        · have hz : ((x2 : Int) == (x1 : Int) + (m : Int) - 1) = false := by simp; omega
          have He := Lib.hid he
          clear he hgo hm1
          go_wp2_with fail
          go_quiet (fail)
          go_wp2_with fail
          go_roundw
          case rel => exact ⟨k + 1, by omega, by go_num, dn12 Hbw.out _, fun j hj => by
            by_cases e : j = k
            · rw [e, ← Hx1.out, ← Hx2.out]; exact He.out
            · exact Hno.out j (by omega)⟩
          case measure => simp [intOf]; omega
      · have hrx : r = -1 := Hc.out.one (run_doc_no Hup.out hm1 (fun j hj => Hno.out j (by rw [← Hq.out] at hj; omega)))
        have Hrx := Lib.hid hrx
        have hm1i : (1 : Int) ≤ (m : Int) := by omega
        clear hrx hbw
        by_cases hkq : k < q
        · have hki : (k : Int) < (q : Int) := by omega
          have hmi : ¬ (m : Int) ≤ (q : Int) - (k : Int) := by omega
          go_wp2_with fail
          go_ret
          exact ⟨by rw [Hrx.out]; rfl, Hb.out.trans (Hbw.out.mono Hb.out.size)⟩
        · have hki : ¬ (k : Int) < (q : Int) := by omega
          go_wp2_with fail
          go_ret
          exact ⟨by rw [Hrx.out]; rfl, Hb.out.trans (Hbw.out.mono Hb.out.size)⟩
end Go.Proofs.YthkflghekgbgcaaDoor

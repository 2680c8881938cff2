/-
  The contract of package pool's become, whatever is handed in. No condition but bounds.
-/
import Derived.Test.YtgkdpljlgdlekaaDoorEfd
namespace Go.Proofs.YtgkdpljlgdlekaaDoor
open Go.RowKit Go.Proofs
set_option linter.unusedVariables false

/-- What become answers. -/
def RetBec (st : Ps → Int → Bool × Ps) (P M B M2 B2 : Nat) (p : Ps) (zs : List Int) (w : World) (e : Ending) (w' : World) : Prop := e = .returned (.int .i64 ((becL st p.a (0, p) zs).1 : Int)) ∧ PlAt w' P M B M2 B2 (becL st p.a (0, p) zs).2 ∧ Fr (Tw B B2) w w'
set_option maxRecDepth 20000
set_option maxHeartbeats 1600000
theorem become_any (st : Ps → Int → Bool × Ps) (hst : Step14 st) (g : Nat) (eg : ∀ args w, (callFunc g args).run Tryd.prog w = .ok (.enter g args) w) (k1 k2 : Array Value) (P M B M2 B2 : Nat) (p : Ps) (A : Option Addr) (n c : Nat) (zs : List Int) (w : World)
    (h : PlAt w P M B M2 B2 p) (hs : Sl w 1 A n c (icells zs)) (hl : zs.length = n) (hz : ∀ z ∈ zs, z < 9223372036854775808) (hA : ∀ b o, 0 < n → A = some ⟨b, o, none⟩ → ¬ Tw B B2 b)
    (hstep : ∀ W q i, Fr (Tw B B2) w W → PlAt W P M B M2 B2 q → Calls Tryd.prog g (k1 ++ #[.int .i64 i] ++ k2) W (RetS14 st P M B M2 B2 q i W)) :
    Calls Tryd.prog 27 #[.pointer (some ⟨P, 0, none⟩), .slice A n c, .func (.func g) k1 k2] w (RetBec st P M B M2 B2 p zs w) := by
  have hmd := pmade_yes P M w h.c3
  have hlim := hs.lim
  unfold maxLen at hlim
  have H := Lib.hid h
  have HS := Lib.hid hs
  have HL := Lib.hid hl
  have HZ := Lib.hid hz
  have HA := Lib.hid hA
  have HF := Lib.hid hstep
  clear h hs hl hz hA hstep
  go_enter Tryd.func27, Tryd.ntmps27
  go_wp2_with fail
  refine hmd.mono ?_; clear hmd; rintro e w1 ⟨rfl, hw1⟩
  obtain rfl : w = w1 := hw1.symm
  go_wp2_with fail
  go_loopw [7, 15] (fun x y wr => ∃ (k j : Nat) (q : Ps), x = .int .i64 (k : Int) ∧ y = .int .i64 (j : Int) ∧ k ≤ j ∧ j ≤ n ∧ q.a = p.a ∧ PlAt wr P M B M2 B2 q ∧ Fr (Tw B B2) w wr ∧ becL st p.a (0, p) zs = becL st p.a (k, q) (zs.drop j)) (fun _ y _ => n - (intOf y).toNat)
  case atStart => exact ⟨0, 0, p, rfl, rfl, by omega, by omega, rfl, H.out, Fr.refl _ _, rfl⟩
  case round =>
    obtain ⟨k, j, q, rfl, rfl, hkj, hj, hqa, hp, hf, he⟩ := hrel
    have Hp := Lib.hid hp
    have Hf := Lib.hid hf
    have He := Lib.hid he
    have Hqa := Lib.hid hqa
    by_cases hlt : j < n
    · have hji : (j : Int) < (n : Int) := by omega
      have hjl : j < zs.length := by rw [HL.out]; exact hlt
      obtain ⟨b, o, rfl, hc⟩ := (HS.out.fr hf (fun b o h0 e => HA.out b o h0 e)).at_ hlt
      have hc1 := hc j _ (icells_at hjl)
      have hzl := HZ.out (zs.getD j 0) (by rw [List.getD_eq_getElem?_getD, List.getElem?_eq_getElem hjl]; exact List.getElem_mem _)
      have hdrop : zs.drop j = zs.getD j 0 :: zs.drop (j + 1) := by
        rw [List.drop_eq_getElem_cons hjl]
        simp [hjl]
      have he2 := he
      rw [hdrop, becL] at he2
      obtain ⟨z, hz⟩ : ∃ z, z = zs.getD j 0 := ⟨_, rfl⟩
      rw [← hz] at hc1 hzl he2
      have hca := hp.c2
      rw [hqa] at hca
      have hak := hp.ok.a2
      rw [hqa] at hak
      have hcall := HF.out wr q (z - (p.a : Int)) hf hp
      have Ha := Lib.hid (show (st q (z - (p.a : Int))).2.a = p.a from (hst.a _ _).trans hqa)
      have Hng := Lib.hid (hst.neg q (z - (p.a : Int)))
      obtain ⟨a0, ha0⟩ : ∃ a, a = p.a := ⟨_, rfl⟩
      rw [← ha0] at hca hak hcall
      have Ha0 := Lib.hid ha0
      rw [← ha0] at he2
      have He2 := Lib.hid he2
      clear hc hz hdrop he he2 hp hf hqa ha0
      by_cases hza : z ≥ (a0 : Int)
      · have hwn : IntKind.i64.wrap (z - (a0 : Int)) = z - (a0 : Int) := by rw [IntKind.wrap_i64]; omega
        obtain ⟨y, hy⟩ : ∃ y, y = (st q (z - (a0 : Int))).1 := ⟨_, rfl⟩
        unfold RetS14 at hcall
        rw [← hy] at hcall
        have Hy := Lib.hid hy
        have Hwn := Lib.hid hwn
        clear hy hwn
        cases y
        · go_wp2_with fail
          refine hcall.mono ?_; clear hcall; rintro e w2 ⟨rfl, hp2, hf2⟩
          have Hp2 := Lib.hid hp2
          have Hf2 := Lib.hid hf2
          clear hp2 hf2
          go_wp2_with fail
          go_roundw
          case rel => exact ⟨k, j + 1, (st q (z - (a0 : Int))).2, rfl, by go_num, by omega, by omega, by rw [Ha0.out]; exact Ha.out, Hp2.out, Hf.out.trans Hf2.out, by rw [← Ha0.out, He2.out, ← Hy.out]; simp⟩
          case measure => simp [intOf]; omega
        · go_wp2_with fail
          refine hcall.mono ?_; clear hcall; rintro e w2 ⟨rfl, hp2, hf2⟩
          have Hp2 := Lib.hid hp2
          have Hf2 := Lib.hid hf2
          clear hp2 hf2
          go_wp2_with fail
          go_roundw
          case rel => exact ⟨k + 1, j + 1, (st q (z - (a0 : Int))).2, by go_num, by go_num, by omega, by omega, by rw [Ha0.out]; exact Ha.out, Hp2.out, Hf.out.trans Hf2.out, by rw [← Ha0.out, He2.out, ← Hy.out]; simp⟩
          case measure => simp [intOf]; omega
      · clear hcall
        have hn := Hng.out (by rw [← Ha0.out]; omega)
        rw [← Ha0.out] at hn
        have Hn := Lib.hid hn
        clear hn
        go_wp2_with fail
        go_roundw
        case rel => exact ⟨k, j + 1, q, rfl, by go_num, by omega, by omega, Hqa.out, Hp.out, Hf.out, by rw [← Ha0.out, He2.out, Hn.out]; simp⟩
        case measure => simp [intOf]; omega
    · obtain rfl : j = n := by omega
      have he2 := he
      rw [List.drop_of_length_le (by rw [HL.out]; exact Nat.le_refl _), becL] at he2
      have He2 := Lib.hid he2
      clear he he2 hp hf hqa
      go_wp2_with fail
      go_ret
      exact ⟨by rw [He2.out]; rfl, by rw [He2.out]; exact Hp.out, Hf.out⟩
theorem become_no (v : Value) (A : Option Addr) (n c : Nat) (x : Value) (w : World) (hm : Calls Tryd.prog 24 #[v] w fun e w' => e = .returned (.bool false) ∧ w' = w) :
    Calls Tryd.prog 27 #[v, .slice A n c, x] w fun e w' => e = .returned (.int .i64 0) ∧ w' = w := by
  go_enter Tryd.func27, Tryd.ntmps27
  go_wp2_with fail
  refine hm.mono ?_; clear hm; rintro e w1 ⟨rfl, hw1⟩
  obtain rfl : w = w1 := hw1.symm
  go_wp2_with fail
  go_ret
  exact ⟨rfl, rfl⟩
end Go.Proofs.YtgkdpljlgdlekaaDoor

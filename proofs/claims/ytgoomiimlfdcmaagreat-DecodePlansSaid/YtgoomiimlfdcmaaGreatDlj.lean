/-
  Contracts of package decode's Data and All. Condition: the coder is one that New made, or none.
-/
import Derived.Test.YtgoomiimlfdcmaaGreatDli
namespace Go.Proofs.YtgoomiimlfdcmaaGreat
open Go.RowKit Go.Proofs
set_option linter.unusedVariables false

set_option maxRecDepth 20000 in
set_option maxHeartbeats 800000 in
theorem ddata_any (C k m F T : Nat) (A : Option Addr) (n c : Nat) (rs : List (List UInt8)) (w : World) (h : Cod w C k m F T) (hg : Gr w A n c rs) (hW : ∀ r ∈ rs, r.length ≤ 1048576) (hn : n ≤ 1048576) :
    Calls Tryz.prog 13 #[.pointer (some ⟨C, 0, none⟩), .slice A n c] w fun e w' =>
      ((rightX k m rs ≠ 0 ∧ e = .returned (.tuple #[.slice none 0 0, .int .i64 (rightX k m rs)])) ∨
        (rightX k m rs = 0 ∧ ∃ (A' : Option Addr) (c' : Nat) (X : Mx), Alike k k (mm k X (facM k ((thereL rs n).take k))) one ∧ e = .returned (.tuple #[.slice A' k c', .int .i64 0]) ∧
          Gr w' A' k c' (fillL (rs.take k) (makeL k X rs ((thereL rs n).take k) (rs.getD ((thereL rs n).getD 0 0) []).length) k))) ∧ Below w.heap.size w w' := by
  have h3 := h.n255
  have Hg := Lib.hid hg; clear hg
  have HW := Lib.hid hW; clear hW
  have H := Lib.hid h; clear h
  go_enter Tryz.func13, Tryz.ntmps13
  go_wp2_with fail
  refine (ck_any C k m F T _ H.out).mono ?_; rintro e w1 ⟨rfl, rfl⟩
  have Hb1 := Lib.hid (Below.refl w1.heap.size w1)
  go_wp2_with fail
  have hh := restore_any C k m F T k A n c rs w1 H.out Hg.out HW.out hn (by omega)
  refine hh.mono ?_; clear hh; rintro e w2 ⟨hr, hb2⟩
  have Hb2 := Lib.hid (Hb1.out.trans (hb2.mono Hb1.out.size)); clear hb2
  rcases hr with ⟨hx, rfl⟩ | ⟨hx, A', c', X, hX, rfl, hG⟩
  · have Hx := Lib.hid hx; clear hx
    go_wp2_with fail
    go_ret2
    exact ⟨.inl ⟨Hx.out, rfl⟩, Hb2.out⟩
  · have Hx := Lib.hid hx; clear hx
    have HX := Lib.hid hX; clear hX
    have HG := Lib.hid hG; clear hG
    go_wp2_with fail
    go_ret2
    exact ⟨.inr ⟨Hx.out, A', c', X, HX.out, rfl, HG.out⟩, Hb2.out⟩

set_option maxRecDepth 20000 in
set_option maxHeartbeats 800000 in
theorem dall_any (C k m F T : Nat) (A : Option Addr) (n c : Nat) (rs : List (List UInt8)) (w : World) (h : Cod w C k m F T) (hg : Gr w A n c rs) (hW : ∀ r ∈ rs, r.length ≤ 1048576) (hn : n ≤ 1048576) :
    Calls Tryz.prog 15 #[.pointer (some ⟨C, 0, none⟩), .slice A n c] w fun e w' =>
      ((rightX k m rs ≠ 0 ∧ e = .returned (.tuple #[.slice none 0 0, .int .i64 (rightX k m rs)])) ∨
        (rightX k m rs = 0 ∧ ∃ (A' : Option Addr) (c' : Nat) (X : Mx), Alike k k (mm k X (facM k ((thereL rs n).take k))) one ∧ e = .returned (.tuple #[.slice A' (k + m) c', .int .i64 0]) ∧
          Gr w' A' (k + m) c' (fillL (rs.take (k + m)) (makeL k X rs ((thereL rs n).take k) (rs.getD ((thereL rs n).getD 0 0) []).length) (k + m)))) ∧ Below w.heap.size w w' := by
  have h3 := h.n255
  have Hg := Lib.hid hg; clear hg
  have HW := Lib.hid hW; clear hW
  have H := Lib.hid h; clear h
  go_enter Tryz.func15, Tryz.ntmps15
  go_wp2_with fail
  refine (cn_any C k m F T _ H.out).mono ?_; rintro e w1 ⟨rfl, hb1⟩
  have Hb1 := Lib.hid hb1
  have hh := restore_any C k m F T (k + m) A n c rs w1 (H.out.later hb1) (Hg.out.later hb1) HW.out hn (by omega)
  rw [show (((k + m : Nat)) : Int) = (k : Int) + (m : Int) from by simp] at hh
  clear hb1
  go_wp2_with fail
  refine hh.mono ?_; clear hh; rintro e w2 ⟨hr, hb2⟩
  have Hb2 := Lib.hid (Hb1.out.trans (hb2.mono Hb1.out.size)); clear hb2
  rcases hr with ⟨hx, rfl⟩ | ⟨hx, A', c', X, hX, rfl, hG⟩
  · have Hx := Lib.hid hx; clear hx
    go_wp2_with fail
    go_ret2
    exact ⟨.inl ⟨Hx.out, rfl⟩, Hb2.out⟩
  · have Hx := Lib.hid hx; clear hx
    have HX := Lib.hid hX; clear hX
    have HG := Lib.hid hG; clear hG
    go_wp2_with fail
    go_ret2
    exact ⟨.inr ⟨Hx.out, A', c', X, HX.out, rfl, HG.out⟩, Hb2.out⟩

set_option maxRecDepth 20000 in
theorem cknil_any (w : World) :
    Calls Tryz.prog 30 #[.pointer none] w fun e w' => e = .returned (.int .i64 0) ∧ w' = w := by
  go_enter Tryz.func30, Tryz.ntmps30
  go_wp2_with fail
  go_ret
  exact ⟨rfl, rfl⟩
set_option maxRecDepth 20000 in
theorem restorenil_any (A : Option Addr) (n c : Nat) (z : Int) (w : World) :
    Calls Tryz.prog 29 #[.pointer none, .slice A n c, .int .i64 z] w fun e w' => e = .returned (.tuple #[.slice none 0 0, .int .i64 1]) ∧ w' = w := by
  go_enter Tryz.func29, Tryz.ntmps29
  go_wp2_with fail
  refine (dmadenil_any _).mono ?_; rintro e w1 ⟨rfl, rfl⟩
  go_wp2_with fail
  go_ret2
  exact ⟨rfl, rfl⟩
set_option maxRecDepth 20000 in
theorem ddatanil_any (A : Option Addr) (n c : Nat) (w : World) :
    Calls Tryz.prog 13 #[.pointer none, .slice A n c] w fun e w' => e = .returned (.tuple #[.slice none 0 0, .int .i64 1]) ∧ w' = w := by
  go_enter Tryz.func13, Tryz.ntmps13
  go_wp2_with fail
  refine (cknil_any _).mono ?_; rintro e w1 ⟨rfl, rfl⟩
  go_wp2_with fail
  refine (restorenil_any A n c 0 _).mono ?_; rintro e w2 ⟨rfl, rfl⟩
  go_wp2_with fail
  go_ret2
  exact ⟨rfl, rfl⟩
set_option maxRecDepth 20000 in
theorem plannil_any (A : Option Addr) (n c : Nat) (z : Int) (w : World) :
    Calls Tryz.prog 18 #[.pointer none, .slice A n c, .int .i64 z] w fun e w' => e = .returned (.tuple #[.slice none 0 0, .slice none 0 0, .int .i64 1]) ∧ w' = w := by
  go_enter Tryz.func18, Tryz.ntmps18
  go_wp2_with fail
  refine (dmadenil_any _).mono ?_; rintro e w1 ⟨rfl, rfl⟩
  go_wp2_with fail
  go_ret3
  exact ⟨rfl, rfl⟩
end Go.Proofs.YtgoomiimlfdcmaaGreat

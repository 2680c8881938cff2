/-
  Contracts of package field's Mul, Div, Pow. Condition: the field is one that New made ('Fld').
-/
import Derived.Test.YtccnoflgbopjlaaFdd
namespace Go.Proofs.Ytccnoflgbopjlaa
open Go.RowKit
set_option linter.unusedVariables false

theorem fr_drewN {S : Nat → Prop} {a w : World} (h : Fr S a w) (n : Nat) : Fr S a (w.drewN n) := h.drewN n
theorem Fld1.drewN {w : World} {F T : Nat} (h : Fld1 w F T) (n : Nat) : Fld1 (w.drewN n) F T := ⟨h.cell, h.tabs, h.ne⟩

theorem gz_inv (v : UInt8) : gz v (-1) = ginv v := rfl
/-- What a call on a field answers: the field's tables are made; of what lay in memory nothing else has turned. -/
def OnFld (F T : Nat) (w : World) (v : Value) (e : Ending) (w' : World) : Prop := e = .returned v ∧ Fld1 w' F T ∧ Fr (Ft T) w w'

set_option maxRecDepth 20000 in
set_option maxHeartbeats 800000 in
theorem mul_any (F T : Nat) (u v : UInt8) (w : World) (h : Fld w F T) :
    Calls Try.prog 52 #[.pointer (some ⟨F, 0, none⟩), .int .u8 (u.toNat : Int), .int .u8 (v.toNat : Int)] w (OnFld F T w (.int .u8 ((gm u v).toNat : Int))) := by
  go_enter Try.func52, Try.ntmps52
  go_wp2_with fail
  refine (made_any F T _ h).mono ?_; rintro e w1 ⟨rfl, h1, hf1⟩
  have H1 := Lib.hid h1; clear h1 h
  go_wp2_with fail
  refine (product_any T u v _ H1.out.tabs).mono ?_; rintro e w2 ⟨rfl, k, rfl⟩
  go_wp2_with fail
  go_ret
  exact ⟨rfl, H1.out.drewN k, hf1.drewN k⟩

set_option maxRecDepth 20000 in
set_option maxHeartbeats 800000 in
theorem div_any (F T : Nat) (u v : UInt8) (w : World) (h : Fld w F T) :
    Calls Try.prog 50 #[.pointer (some ⟨F, 0, none⟩), .int .u8 (u.toNat : Int), .int .u8 (v.toNat : Int)] w (OnFld F T w (if v = 0 then .tuple #[.int .u8 0, .int .i64 2] else .tuple #[.int .u8 ((gd u v).toNat : Int), .int .i64 0])) := by
  have hv := v.toNat_lt
  by_cases h0 : v = 0
  · subst h0
    go_enter Try.func50, Try.ntmps50
    go_wp2_with fail
    refine (made_any F T _ h).mono ?_; rintro e w1 ⟨rfl, h1, hf1⟩
    have H1 := Lib.hid h1; clear h1 h
    go_wp2_with fail
    go_ret2
    exact ⟨rfl, H1.out, hf1⟩
  · have h0' : v.toNat ≠ 0 := fun e => h0 (UInt8.toNat_inj.1 e)
    have e1 : ((v.toNat : Int) == 0) = false := by simp; omega
    rw [if_neg h0]
    go_enter Try.func50, Try.ntmps50
    go_wp2_with fail
    refine (made_any F T _ h).mono ?_; rintro e w1 ⟨rfl, h1, hf1⟩
    have H1 := Lib.hid h1; clear h1 h
    go_wp2_with fail
    refine (raised_any T v (-1) (by decide) (by decide) _ H1.out.tabs h0).mono ?_; rintro e w2 ⟨rfl, k, rfl⟩
    rw [gz_inv v]
    go_wp2_with fail
    refine (product_any T u (ginv v) _ (H1.out.drewN k).tabs).mono ?_; rintro e w3 ⟨rfl, k2, rfl⟩
    go_wp2_with fail
    go_ret2
    exact ⟨rfl, H1.out.drewN _, hf1.drewN _⟩

/-- What Pow answers. -/
def powV (u : UInt8) (n : Int) : Value :=
  if u = 0 then (if n < 0 then .tuple #[.int .u8 0, .int .i64 2] else if n = 0 then .tuple #[.int .u8 1, .int .i64 0] else .tuple #[.int .u8 0, .int .i64 0]) else .tuple #[.int .u8 ((gz u n).toNat : Int), .int .i64 0]
theorem powV_of {u : UInt8} (h : u ≠ 0) (n : Int) : powV u n = .tuple #[.int .u8 ((gz u n).toNat : Int), .int .i64 0] := if_neg h

end Go.Proofs.Ytccnoflgbopjlaa

/-
  Contracts of package pool's made, of what becomes of one place (take, and the functions that Give, Later and Settle hand on), and of become, whatever is handed in. No condition but bounds.
-/
import Derived.Test.YtgkdpljlgdlekaaDoorEfa
import Derived.Test.YtgkdpljlgdlekaaDoorEfc
namespace Go.Proofs.YtgkdpljlgdlekaaDoor
open Go.RowKit Go.Proofs
set_option linter.unusedVariables false

/-- What turns when places are taken or come back. -/
def Tw (B B2 : Nat) : Nat → Prop := fun b => b = B ∨ b = B2
/-- A pool that New made, at block P; its maps at M and M2, their words at B and B2. -/
structure PlAt (w : World) (P M B M2 B2 : Nat) (p : Ps) : Prop where
  row : w.heap[P]? = some (.cells #[.int .u64 (p.e : Int), .int .i64 (p.t : Int), .int .i64 (p.a : Int), .pointer (some ⟨M, 0, none⟩), .pointer (some ⟨M2, 0, none⟩)] 50 (0, 0))
  busy : Bp w M B p.n p.f
  limbo : Bp w M2 B2 p.n p.g
  ok : p.Ok
  pb : P ≠ B
  pb2 : P ≠ B2
  mb2 : M ≠ B2
  bm2 : M2 ≠ B
  bb2 : B ≠ B2
  pm : P ≠ M
  pm2 : P ≠ M2
section
variable {w w' : World} {P M B M2 B2 : Nat} {p q : Ps}
theorem PlAt.fr {S : Nat → Prop} (h : PlAt w P M B M2 B2 p) (hf : Fr S w w') (h1 : ¬ S P) (h2 : ¬ S M) (h3 : ¬ S B) (h4 : ¬ S M2) (h5 : ¬ S B2) : PlAt w' P M B M2 B2 p :=
  ⟨hf.row_some h.row h1, h.busy.fr hf h2 h3, h.limbo.fr hf h4 h5, h.ok, h.pb, h.pb2, h.mb2, h.bm2, h.bb2, h.pm, h.pm2⟩
theorem PlAt.later (h : PlAt w P M B M2 B2 p) (hb : Below w.heap.size w w') : PlAt w' P M B M2 B2 p := h.fr (Fr.of_below hb : Fr (fun _ => False) w w') (fun h => h) (fun h => h) (fun h => h) (fun h => h) (fun h => h)
theorem PlAt.c0 (h : PlAt w P M B M2 B2 p) : w.cell? ⟨P, 0, none⟩ = some (.int .u64 (p.e : Int)) := by rw [cell_of_row _ _ _ _ _ _ h.row]; rfl
theorem PlAt.c1 (h : PlAt w P M B M2 B2 p) : w.cell? ⟨P, 1, none⟩ = some (.int .i64 (p.t : Int)) := by rw [cell_of_row _ _ _ _ _ _ h.row]; rfl
theorem PlAt.c2 (h : PlAt w P M B M2 B2 p) : w.cell? ⟨P, 2, none⟩ = some (.int .i64 (p.a : Int)) := by rw [cell_of_row _ _ _ _ _ _ h.row]; rfl
theorem PlAt.c3 (h : PlAt w P M B M2 B2 p) : w.cell? ⟨P, 3, none⟩ = some (.pointer (some ⟨M, 0, none⟩)) := by rw [cell_of_row _ _ _ _ _ _ h.row]; rfl
theorem PlAt.c4 (h : PlAt w P M B M2 B2 p) : w.cell? ⟨P, 4, none⟩ = some (.pointer (some ⟨M2, 0, none⟩)) := by rw [cell_of_row _ _ _ _ _ _ h.row]; rfl
theorem PlAt.free (h : PlAt w P M B M2 B2 p) (j : Nat) : w.frozen? ⟨P, j, none⟩ = false := frozen_of_row _ _ _ _ _ h.row
theorem PlAt.ltP (h : PlAt w P M B M2 B2 p) : P < w.heap.size := block_lt h.row
/-- The one map turns; the other. -/
theorem PlAt.turn1 {f' : Nat → Bool} (h : PlAt w P M B M2 B2 p) (hb : Bp w' M B p.n f') (hf : Fr (fun b => b = B) w w') (ho : ({ p with f := f' } : Ps).Ok) : PlAt w' P M B M2 B2 { p with f := f' } :=
  ⟨hf.row_some h.row h.pb, hb, h.limbo.fr hf h.bm2 (fun e => h.bb2 e.symm), ho, h.pb, h.pb2, h.mb2, h.bm2, h.bb2, h.pm, h.pm2⟩
theorem PlAt.turn2 {g' : Nat → Bool} (h : PlAt w P M B M2 B2 p) (hb : Bp w' M2 B2 p.n g') (hf : Fr (fun b => b = B2) w w') (ho : ({ p with g := g' } : Ps).Ok) : PlAt w' P M B M2 B2 { p with g := g' } :=
  ⟨hf.row_some h.row h.pb2, h.busy.fr hf h.mb2 h.bb2, hb, ho, h.pb, h.pb2, h.mb2, h.bm2, h.bb2, h.pm, h.pm2⟩
end
theorem Fr.tw1 {B B2 : Nat} {w w' : World} (h : Fr (fun b => b = B) w w') : Fr (Tw B B2) w w' := h.mono fun _ h => .inl h
theorem Fr.tw2 {B B2 : Nat} {w w' : World} (h : Fr (fun b => b = B2) w w') : Fr (Tw B B2) w w' := h.mono fun _ h => .inr h

set_option maxRecDepth 20000
set_option maxHeartbeats 1600000
theorem pmade_nil (w : World) : Calls Tryd.prog 24 #[.pointer none] w fun e w' => e = .returned (.bool false) ∧ w' = w := by
  go_enter Tryd.func24, Tryd.ntmps24
  go_wp2_with fail
  go_ret
  exact ⟨rfl, rfl⟩
theorem pmade_zero (P : Nat) (w : World) (h : w.cell? ⟨P, 3, none⟩ = some (.pointer none)) : Calls Tryd.prog 24 #[.pointer (some ⟨P, 0, none⟩)] w fun e w' => e = .returned (.bool false) ∧ w' = w := by
  go_enter Tryd.func24, Tryd.ntmps24
  go_wp2_with fail
  go_ret
  exact ⟨rfl, rfl⟩
theorem pmade_yes (P M : Nat) (w : World) (h : w.cell? ⟨P, 3, none⟩ = some (.pointer (some ⟨M, 0, none⟩))) : Calls Tryd.prog 24 #[.pointer (some ⟨P, 0, none⟩)] w fun e w' => e = .returned (.bool true) ∧ w' = w := by
  go_enter Tryd.func24, Tryd.ntmps24
  go_wp2_with fail
  go_ret
  exact ⟨rfl, rfl⟩
/-- What a step answers. -/
def RetS14 (st : Ps → Int → Bool × Ps) (P M B M2 B2 : Nat) (p : Ps) (i : Int) (w : World) (e : Ending) (w' : World) : Prop := e = .returned (.bool (st p i).1) ∧ PlAt w' P M B M2 B2 (st p i).2 ∧ Fr (Tw B B2) w w'
theorem take1_any {P M B M2 B2 : Nat} {p : Ps} (i : Int) (w : World) (h : PlAt w P M B M2 B2 p) :
    Calls Tryd.prog 28 #[.pointer (some ⟨P, 0, none⟩), .int .i64 i] w (RetS14 takeS P M B M2 B2 p i w) := by
  have hs := set_any M B p.n i p.f true w h.busy
  have h3 := h.c3
  have H := Lib.hid h
  clear h
  go_enter Tryd.func28, Tryd.ntmps28
  go_wp2_with fail
  refine hs.mono ?_; clear hs; rintro e w2 ⟨rfl, hb, hf⟩
  have h4 := Lib.hid (H.out.turn1 hb hf (takeS_ok H.out.ok i))
  have hF := Lib.hid (hf.tw1 : Fr (Tw B B2) w w2)
  clear hb hf
  go_wp2_with fail
  go_ret
  exact ⟨rfl, h4.out, hF.out⟩
theorem give1_any {P M B M2 B2 bx : Nat} {p : Ps} (i : Int) (w : World) (h : PlAt w P M B M2 B2 p) (hx : w.cell? ⟨bx, 0, none⟩ = some (.pointer (some ⟨P, 0, none⟩))) :
    Calls Tryd.prog 29 #[.int .i64 i, .pointer (some ⟨bx, 0, none⟩)] w (RetS14 giveS P M B M2 B2 p i w) := by
  have hs := set_any M B p.n i p.f false w h.busy
  have hh := has_any _ p.n p.g i w h.limbo.mp
  have h3 := h.c3
  have h4 := h.c4
  have H := Lib.hid h
  clear h
  by_cases hg : (inB p.n i && p.g i.toNat) = true
  · have he : giveS p i = (false, p) := by rw [giveS, if_pos hg]
    unfold RetS14
    rw [he]
    rw [hg] at hh
    clear hs hg he
    go_enter Tryd.func29, Tryd.ntmps29
    go_wp2_with fail
    refine hh.mono ?_; clear hh; rintro e w2 ⟨rfl, hw2⟩
    obtain rfl : w = w2 := hw2.symm
    go_wp2_with fail
    go_ret
    exact ⟨rfl, H.out, Fr.refl _ _⟩
  · have he : giveS p i = (setB p.n p.f i false, { p with f := setF p.n p.f i false }) := by rw [giveS, if_neg hg]
    have hok := giveS_ok H.out.ok i
    rw [he] at hok
    have Hok := Lib.hid hok
    unfold RetS14
    rw [he]
    have hg' : (inB p.n i && p.g i.toNat) = false := by simpa using hg
    rw [hg'] at hh
    clear hg he hg' hok
    go_enter Tryd.func29, Tryd.ntmps29
    go_wp2_with fail
    refine hh.mono ?_; clear hh; rintro e w2 ⟨rfl, hw2⟩
    obtain rfl : w = w2 := hw2.symm
    go_wp2_with fail
    refine hs.mono ?_; clear hs; rintro e w2 ⟨rfl, hb, hf⟩
    have h4 := Lib.hid (H.out.turn1 hb hf Hok.out)
    have hF := Lib.hid (hf.tw1 : Fr (Tw B B2) w w2)
    clear hb hf
    go_wp2_with fail
    go_ret
    exact ⟨rfl, h4.out, hF.out⟩
theorem later1_any {P M B M2 B2 bx : Nat} {p : Ps} (i : Int) (w : World) (h : PlAt w P M B M2 B2 p) (hx : w.cell? ⟨bx, 0, none⟩ = some (.pointer (some ⟨P, 0, none⟩))) :
    Calls Tryd.prog 32 #[.int .i64 i, .pointer (some ⟨bx, 0, none⟩)] w (RetS14 laterS P M B M2 B2 p i w) := by
  have hs := set_any M2 B2 p.n i p.g true w h.limbo
  have hh := has_any _ p.n p.f i w h.busy.mp
  have h3 := h.c3
  have h4 := h.c4
  have H := Lib.hid h
  clear h
  by_cases hg : (inB p.n i && p.f i.toNat) = true
  · have he : laterS p i = (setB p.n p.g i true, { p with g := setF p.n p.g i true }) := by rw [laterS, if_pos hg]
    have hok := laterS_ok H.out.ok i
    rw [he] at hok
    have Hok := Lib.hid hok
    unfold RetS14
    rw [he]
    rw [hg] at hh
    clear hg he hok
    go_enter Tryd.func32, Tryd.ntmps32
    go_wp2_with fail
    refine hh.mono ?_; clear hh; rintro e w2 ⟨rfl, hw2⟩
    obtain rfl : w = w2 := hw2.symm
    go_wp2_with fail
    refine hs.mono ?_; clear hs; rintro e w2 ⟨rfl, hb, hf⟩
    have h4 := Lib.hid (H.out.turn2 hb hf Hok.out)
    have hF := Lib.hid (hf.tw2 : Fr (Tw B B2) w w2)
    clear hb hf
    go_wp2_with fail
    go_ret
    exact ⟨rfl, h4.out, hF.out⟩
  · have he : laterS p i = (false, p) := by rw [laterS, if_neg hg]
    unfold RetS14
    rw [he]
    have hg' : (inB p.n i && p.f i.toNat) = false := by simpa using hg
    rw [hg'] at hh
    clear hs hg he hg'
    go_enter Tryd.func32, Tryd.ntmps32
    go_wp2_with fail
    refine hh.mono ?_; clear hh; rintro e w2 ⟨rfl, hw2⟩
    obtain rfl : w = w2 := hw2.symm
    go_wp2_with fail
    go_ret
    exact ⟨rfl, H.out, Fr.refl _ _⟩
theorem settle1_any {P M B M2 B2 bx : Nat} {p : Ps} (i : Int) (w : World) (h : PlAt w P M B M2 B2 p) (hx : w.cell? ⟨bx, 0, none⟩ = some (.pointer (some ⟨P, 0, none⟩))) (hxb : bx ≠ B2) :
    Calls Tryd.prog 34 #[.int .i64 i, .pointer (some ⟨bx, 0, none⟩)] w (RetS14 settleS P M B M2 B2 p i w) := by
  have hs := set_any M2 B2 p.n i p.g false w h.limbo
  have h3 := h.c3
  have h4 := h.c4
  have H := Lib.hid h
  have Hx := Lib.hid hx
  have Hok := Lib.hid (settleS_ok h.ok i)
  clear h
  by_cases hg : setB p.n p.g i false = true
  · have he : settleS p i = (setB p.n p.f i false, { p with g := setF p.n p.g i false, f := setF p.n p.f i false }) := by rw [settleS, if_pos hg]
    rw [he] at Hok
    unfold RetS14
    rw [he]
    rw [hg] at hs
    clear hg he
    go_enter Tryd.func34, Tryd.ntmps34
    go_wp2_with fail
    refine hs.mono ?_; clear hs; rintro e w2 ⟨rfl, hb, hf⟩
    have hx2 := hf.cell_some Hx.out hxb
    have h32 := hf.cell_some H.out.c3 H.out.pb2
    have hs2 := set_any M B p.n i p.f false w2 (H.out.busy.fr hf H.out.mb2 H.out.bb2)
    have Hr := Lib.hid (hf.row_some H.out.row H.out.pb2)
    have Hb := Lib.hid hb
    have Hf := Lib.hid hf
    clear hb hf
    go_wp2_with fail
    refine hs2.mono ?_; clear hs2; rintro e w3 ⟨rfl, hb3, hf3⟩
    have hh := H.out
    have h4 := Lib.hid (show PlAt w3 P M B M2 B2 { p with g := setF p.n p.g i false, f := setF p.n p.f i false } from ⟨hf3.row_some Hr.out hh.pb, hb3, Hb.out.fr hf3 hh.bm2 (fun e => hh.bb2 e.symm), Hok.out, hh.pb, hh.pb2, hh.mb2, hh.bm2, hh.bb2, hh.pm, hh.pm2⟩)
    have hF := Lib.hid ((Hf.out.tw2 : Fr (Tw B B2) w w2).trans (hf3.tw1 : Fr (Tw B B2) w2 w3))
    clear hb3 hf3 hh
    go_wp2_with fail
    go_ret
    exact ⟨rfl, h4.out, hF.out⟩
  · have hg' : setB p.n p.g i false = false := by simpa using hg
    have he : settleS p i = (false, p) := by rw [settleS, if_neg hg]
    unfold RetS14
    rw [he]
    rw [hg', setF_same hg'] at hs
    clear hg hg' he
    go_enter Tryd.func34, Tryd.ntmps34
    go_wp2_with fail
    refine hs.mono ?_; clear hs; rintro e w2 ⟨rfl, hb, hf⟩
    have h4 := Lib.hid (H.out.turn2 hb hf H.out.ok)
    have hF := Lib.hid (hf.tw2 : Fr (Tw B B2) w w2)
    clear hb hf
    go_wp2_with fail
    go_ret
    exact ⟨rfl, h4.out, hF.out⟩
end Go.Proofs.YtgkdpljlgdlekaaDoor

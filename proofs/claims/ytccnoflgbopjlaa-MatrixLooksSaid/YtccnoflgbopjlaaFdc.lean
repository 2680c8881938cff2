/-
  Contracts of sync.Once's calls as package field makes them, of made, and of New. No condition.
-/
import Derived.Test.YtccnoflgbopjlaaFdb
namespace Go.Proofs.Ytccnoflgbopjlaa
open Go.RowKit
set_option linter.unusedVariables false

set_option maxRecDepth 100000 in
set_option maxHeartbeats 1600000 in
theorem slow_any (T : Nat) (w : World) (h : Tabs w T 0 0 (fun _ => 0) (fun _ => 0)) :
    Calls Try.prog 70 #[.pointer (some ⟨T, 0, none⟩), .func (.func 66) #[.pointer (some ⟨T, 0, none⟩)] #[]] w fun e w' => e = .returned (.tuple #[]) ∧ Tabs w' T 1 0 pwF exF ∧ Fr (Ft T) w w' := by
  have hl1 : Tabs (w.setCell ⟨T, 1, none⟩ (.int .i32 1)) T 0 1 (fun _ => 0) (fun _ => 0) := h.set 1 _ (tb_lock _ _ _ _ _)
  have hnot : ∀ (x : Bool) (w : World), (Op.unary .not (.bool x)).run Try.prog w = .ok (.bool (!x)) w := fun _ _ => rfl
  have Hl1 := Lib.hid hl1; clear hl1
  have H := Lib.hid h; clear h
  go_enter_defers Try.func70, Try.ntmps70
  go_wp2_with (first | (go_at_call 72; refine (lock_free ⟨T, 1, none⟩ _ H.out.cell1 (H.out.free 1)).mono ?_; rintro e w' ⟨rfl, rfl⟩) | (go_at_call 69; refine (load_done ⟨T, 0, none⟩ 0 _ Hl1.out.cell0).mono ?_; rintro e w' ⟨rfl, rfl⟩) | (go_at_call 66; refine (fill_any T 0 1 _ Hl1.out).mono ?_; rintro e w2 ⟨rfl, h2, hf2⟩))
  have hf : Fr (Ft T) w w2 := ((Fr.refl (Ft T) w).setCell (.inr rfl) _).trans hf2
  refine leaves_cons (f := 74) (args := #[.pointer (some ⟨T, 0, none⟩), .bool true]) (by simp) (by simp [go_sem]) ?_
  refine (store_deferred ⟨T, 0, none⟩ (.int .u32 0) .returning _ h2.cell0 (h2.free 0)).mono ?_
  rintro e u' w'' ⟨rfl, rfl, rfl⟩
  have h3 : Tabs (w2.drew.setCell ⟨T, 0, none⟩ (.int .u32 1)) T 1 1 pwF exF := h2.drew.set 0 _ (tb_done _ _ _ _ _)
  refine leaves_cons (f := 73) (args := #[.pointer (some ⟨T, 1, none⟩)]) (by simp [settle]) (by simp [go_sem]) ?_
  refine (unlock_deferred ⟨T, 1, none⟩ _ _ h3.cell1 (h3.free 1)).mono ?_
  rintro e u' w'' ⟨rfl, rfl, rfl⟩
  have h4 : Tabs ((w2.drew.setCell ⟨T, 0, none⟩ (.int .u32 1)).setCell ⟨T, 1, none⟩ (.int .i32 0)) T 1 0 pwF exF := h3.set 1 _ (tb_lock _ _ _ _ _)
  simp [Leaves, settle, results, Try.results70]
  exact ⟨h4, (hf.drew.setCell (.inr rfl) _).setCell (.inr rfl) _⟩

/-- The tables' state: not yet made, or made. -/
def Tabs2 (w : World) (T : Nat) : Prop := Tabs w T 0 0 (fun _ => 0) (fun _ => 0) ∨ Tabs w T 1 0 pwF exF

set_option maxRecDepth 20000 in
set_option maxHeartbeats 800000 in
theorem do_any (T : Nat) (w : World) (h : Tabs2 w T) :
    Calls Try.prog 65 #[.pointer (some ⟨T, 0, none⟩), .func (.func 66) #[.pointer (some ⟨T, 0, none⟩)] #[]] w fun e w' => e = .returned (.tuple #[]) ∧ Tabs w' T 1 0 pwF exF ∧ Fr (Ft T) w w' := by
  have hnot : ∀ (x : Bool) (w : World), (Op.unary .not (.bool x)).run Try.prog w = .ok (.bool (!x)) w := fun _ _ => rfl
  rcases h with h | h
  · have H := Lib.hid h; clear h
    go_enter Try.func65, Try.ntmps65
    go_wp2_with (go_at_call 69; refine (load_done ⟨T, 0, none⟩ 0 _ H.out.cell0).mono ?_; rintro e w' ⟨rfl, rfl⟩)
    go_wp2_with (go_at_call 70; refine (slow_any T _ H.out).mono ?_; rintro e w' ⟨rfl, h2, hf⟩)
    go_end0
    exact ⟨rfl, h2, hf⟩
  · have H := Lib.hid h; clear h
    go_enter Try.func65, Try.ntmps65
    go_wp2_with (go_at_call 69; refine (load_done ⟨T, 0, none⟩ 1 _ H.out.cell0).mono ?_; rintro e w' ⟨rfl, rfl⟩)
    go_wp2_with fail
    go_end0
    exact ⟨rfl, H.out, Fr.refl _ _⟩

/-- A field that New made: at block F a pointer to the tables at block T. -/
structure Fld (w : World) (F T : Nat) : Prop where
  cell : w.cell? ⟨F, 0, none⟩ = some (.pointer (some ⟨T, 0, none⟩))
  tabs : Tabs2 w T
  ne : F ≠ T
/-- The same with the tables made. -/
structure Fld1 (w : World) (F T : Nat) : Prop where
  cell : w.cell? ⟨F, 0, none⟩ = some (.pointer (some ⟨T, 0, none⟩))
  tabs : Tabs w T 1 0 pwF exF
  ne : F ≠ T
theorem Fld1.fld {w : World} {F T : Nat} (h : Fld1 w F T) : Fld w F T := ⟨h.cell, .inr h.tabs, h.ne⟩
theorem Fld.fr {S : Nat → Prop} {w w' : World} {F T : Nat} (h : Fld w F T) (hf : Fr S w w') (h1 : ¬ S F) (h2 : ¬ S T) : Fld w' F T :=
  ⟨hf.cell_some h.cell h1, h.tabs.imp (fun k => k.fr hf h2) (fun k => k.fr hf h2), h.ne⟩
theorem Fld1.fr {S : Nat → Prop} {w w' : World} {F T : Nat} (h : Fld1 w F T) (hf : Fr S w w') (h1 : ¬ S F) (h2 : ¬ S T) : Fld1 w' F T :=
  ⟨hf.cell_some h.cell h1, h.tabs.fr hf h2, h.ne⟩
theorem Fld.ltF {w : World} {F T : Nat} (h : Fld w F T) : F < w.heap.size := World.block_lt_of_cell? w _ h.cell
theorem Fld.ltT {w : World} {F T : Nat} (h : Fld w F T) : T < w.heap.size := h.tabs.elim Tabs.lt Tabs.lt
theorem Fld.later {w w' : World} {F T : Nat} (h : Fld w F T) (hb : Below w.heap.size w w') : Fld w' F T := h.fr (S := fun _ => False) (Fr.of_below hb) id id
theorem Fld1.later {w w' : World} {F T : Nat} (h : Fld1 w F T) (hb : Below w.heap.size w w') : Fld1 w' F T := h.fr (S := fun _ => False) (Fr.of_below hb) id id

set_option maxRecDepth 20000 in
set_option maxHeartbeats 800000 in
theorem made_any (F T : Nat) (w : World) (h : Fld w F T) :
    Calls Try.prog 57 #[.pointer (some ⟨F, 0, none⟩)] w fun e w' => e = .returned (.pointer (some ⟨T, 0, none⟩)) ∧ Fld1 w' F T ∧ Fr (Ft T) w w' := by
  have hmf : ∀ (fn : Fn) (first cap : Array Value) (w : World), (Instr.makeFunc fn first cap).run Try.prog w = .ok (.func fn first cap) w := fun _ _ _ _ => rfl
  have hne := h.ne
  have hc := h.cell
  have hcd : w.drew.cell? ⟨F, 0, none⟩ = some (.pointer (some ⟨T, 0, none⟩)) := hc
  have ht : Tabs2 w.drew T := h.tabs
  have Ht := Lib.hid ht; clear ht
  clear h
  go_enter Try.func57, Try.ntmps57
  go_wp2_with fail
  go_region_with (go_at_call 65; refine (do_any T _ Ht.out).mono ?_; rintro e w1 ⟨rfl, h1, hf1⟩; have hc1 := hf1.cell_some hcd (show ¬ Ft T F from hne))
  all_goals
    go_wp2_with fail
    go_ret
    exact ⟨rfl, ⟨hc1, h1, hne⟩, (Fr.refl _ _).drew.trans hf1⟩
end Go.Proofs.Ytccnoflgbopjlaa

/-
  Contracts of package drive's Flush and Crash. No condition but bounds, and that the list of Crash doesn't lie in the drive's own memory.
-/
import Derived.Test.YtmlmlmlbdjhfhaaDrq
import Derived.Shelf.Abstract
namespace Go.Proofs.Ytmlmlmlbdjhfhaa
open Go.RowKit Go.Proofs Go.Maps
set_option linter.unusedVariables false

theorem bcells_length (l : List Bool) : (bcells l).length = l.length := by simp [bcells]
section
variable {w : World} {D Bd cd cc M : Nat} {x : Dv} {Ac : Option Addr} {ds : List (List UInt8 × Bool)}
set_option maxRecDepth 20000
set_option maxHeartbeats 800000
theorem dvall_any (i : Nat) (W : World) : Calls Try.prog 29 #[.int .i64 (i : Int)] W fun e w' => e = .returned (.bool true) ∧ w' = W := by
  go_enter Try.func29, Try.ntmps29
  go_wp2_with fail
  go_ret
  exact ⟨rfl, rfl⟩
theorem dvkeep_any (i K : Nat) (A : Option Addr) (n c : Nat) (ks : List Bool) (W : World) (hi : i ≤ 100000) (hK : W.cell? ⟨K, 0, none⟩ = some (.slice A n c)) (hs : Sl W 1 A n c (bcells ks)) :
    Calls Try.prog 31 #[.int .i64 (i : Int), .pointer (some ⟨K, 0, none⟩)] W fun e w' => e = .returned (.bool (decide (i < ks.length) && ks.getD i false)) ∧ w' = W := by
  have hn : ks.length = n := by have := hs.len; rw [bcells_length] at this; omega
  by_cases hlt : i < n
  · obtain ⟨b, o, rfl, hc⟩ := hs.at_ hlt
    have hcell := hc i (.bool (ks.getD i false)) (by
      have : i < ks.length := by omega
      simp [bcells, this])
    have hd : decide (i < ks.length) = true := decide_eq_true (by omega)
    rw [hd, Bool.true_and]
    obtain ⟨bb, hb⟩ : ∃ bb, bb = ks.getD i false := ⟨_, rfl⟩
    rw [← hb] at hcell ⊢
    have hki : (i : Int) < (n : Int) := by omega
    clear hb hd hc hn hs hi
    go_enter Try.func31, Try.ntmps31
    go_wp2_with fail
    go_ret
    exact ⟨rfl, rfl⟩
  · have hd : decide (i < ks.length) = false := decide_eq_false (by omega)
    rw [hd, Bool.false_and]
    have hki : ¬ (i : Int) < (n : Int) := by omega
    clear hd hn hs hi hlt
    go_enter Try.func31, Try.ntmps31
    go_wp2_with fail
    go_ret
    exact ⟨rfl, rfl⟩
/-- What a call that stores of what waits leaves. -/
def RetSt9 (y : Dv) (D Bd cd M : Nat) (Ac : Option Addr) (v : Value) (w : World) (e : Ending) (w' : World) : Prop := e = .returned v ∧ Fr (Blk9 D Bd M Ac) w w' ∧ ∃ cc' Ac' ds', Rq w' D y Bd cd Ac' cc' M ds' ∧ ∀ b, Blk9 D Bd M Ac' b → Blk9 D Bd M Ac b ∨ w.heap.size ≤ b
theorem blk9_none {D Bd M : Nat} {Ac : Option Addr} : ∀ b, Blk9 D Bd M none b → Blk9 D Bd M Ac b := fun b h => by
  rcases h with h | h | h | ⟨o, h⟩
  · exact .inl h
  · exact .inr (.inl h)
  · exact .inr (.inr (.inl h))
  · cases h
theorem dvflush_any (hwl : x.wait.length ≤ 100000) (h : Rq w D x Bd cd Ac cc M ds) : Calls Try.prog 11 #[.pointer (some ⟨D, 0, none⟩)] w (RetSt9 x.flush1 D Bd cd M Ac (.int .i64 x.flushX) w) := by
  have hm := dvsilent_any h
  have eg : ∀ args w, (callFunc 29 args).run Try.prog w = .ok (.enter 29 args) w := enters_of Try.func29 (by kernel_rfl) rfl
  have hst := dvstore_any 29 eg #[] (fun _ => true) h (fun W i _ _ => dvall_any i W) hwl
  rw [Dv.store_flush] at hst
  cases hg : x.gone
  · rw [hg, if_neg (by decide)] at hm
    have e1 : x.flushX = 0 := by rw [Dv.flushX, hg]; rfl
    have e2 : x.flush1 = x.flush := by rw [Dv.flush1, hg]; rfl
    rw [e1, e2]
    clear e1 e2 hg eg hwl
    go_enter Try.func11, Try.ntmps11
    go_wp2_with fail
    refine hm.mono ?_; rintro e w1 ⟨rfl, rfl⟩
    go_wp2_with fail
    refine hst.mono ?_; clear hst; rintro e w2 ⟨rfl, hF, ds', hq⟩
    have HF := Lib.hid hF
    have HQ := Lib.hid hq
    clear hF hq
    go_wp2_with fail
    go_ret
    exact ⟨rfl, HF.out, 0, none, ds', HQ.out, fun b hb => .inl (blk9_none b hb)⟩
  · rw [hg, if_pos rfl] at hm
    have e1 : x.flushX = 90 := by rw [Dv.flushX, hg]; rfl
    have e2 : x.flush1 = x := by rw [Dv.flush1, hg]; rfl
    rw [e1, e2]
    clear e1 e2 hg eg hwl hst
    go_enter Try.func11, Try.ntmps11
    go_wp2_with fail
    refine hm.mono ?_; rintro e w1 ⟨rfl, rfl⟩
    go_wp2_with fail
    go_ret
    exact ⟨rfl, Fr.refl _ _, cc, Ac, ds, h, fun _ hb => .inl hb⟩
theorem dvcrash_any (A : Option Addr) (n c : Nat) (ks : List Bool) (hwl : x.wait.length ≤ 100000) (h : Rq w D x Bd cd Ac cc M ds) (hs : Sl w 1 A n c (bcells ks)) (hA : ∀ b o, 0 < n → A = some ⟨b, o, none⟩ → ¬ Blk9 D Bd M Ac b) :
    Calls Try.prog 12 #[.pointer (some ⟨D, 0, none⟩), .slice A n c] w (RetSt9 (x.crash ks) D Bd cd M Ac (.tuple #[]) w) := by
  have eg : ∀ args w, (callFunc 31 args).run Try.prog w = .ok (.enter 31 args) w := enters_of Try.func31 (by kernel_rfl) rfl
  have hB1 : Below w.heap.size w (w.alloc (.cells #[.slice A n c] 23)) := (Below.refl _ _).alloc (Nat.le_refl _) _
  have hK : (w.alloc (.cells #[.slice A n c] 23)).cell? ⟨w.heap.size, 0, none⟩ = some (.slice A n c) := by rw [cell_of_row _ _ _ _ _ _ (heap_alloc_new w _)]; rfl
  have hm := dvmade_any (h.later hB1)
  have hst := dvstore_any 31 eg #[.pointer (some ⟨w.heap.size, 0, none⟩)] (fun i => decide (i < ks.length) && ks.getD i false) (h.later hB1) (fun W i hi hf => by
    refine dvkeep_any i w.heap.size A n c ks W (by omega) (hf.cell_some hK (fun hb => by have := h.lt hb; simp at this)) ?_
    exact (hs.below hB1 (Nat.le_refl _)).fr hf hA) hwl
  rw [Dv.store_crash] at hst
  clear eg hwl
  obtain ⟨w0, hw0⟩ : ∃ w0, w0 = w.alloc (.cells #[.slice A n c] 23) := ⟨_, rfl⟩
  rw [← hw0] at hm hst hB1
  have Hw0 := Lib.hid hw0
  clear hw0
  go_enter Try.func12, Try.ntmps12
  go_wp2_with fail
  rw [← Hw0.out]
  refine hm.mono ?_; rintro e w1 ⟨rfl, hw1⟩
  obtain rfl : w0 = w1 := hw1.symm
  go_wp2_with fail
  refine hst.mono ?_; clear hst; rintro e w2 ⟨rfl, hF, ds', hq⟩
  have HF := Lib.hid hF
  have HQ := Lib.hid hq
  have HB := Lib.hid hB1
  clear hF hq hm hB1
  go_wp2_with fail
  go_end0
  exact ⟨rfl, (Fr.of_below HB.out).trans HF.out, 0, none, ds', HQ.out, fun b hb => .inl (blk9_none b hb)⟩
end
end Go.Proofs.Ytmlmlmlbdjhfhaa

/-
  The document's drive (layer 9): contracts of its Rotten and Stored. No condition but bounds.
-/
import Derived.Test.YtmlmlmlbdjhfhaaDsc
import Derived.Test.YtmlmlmlbdjhfhaaDrt
namespace Go.Proofs.Ytmlmlmlbdjhfhaa
open Go.RowKit Go.Proofs
set_option linter.unusedVariables false

namespace Ev
/-- The same of any number, also of one that no sector has. -/
def turnsZ (z : Int) (r : Bool) (e : Ev) : Bool := if (e.at_ : Int) = z then decide (e.mask ≠ 0) else r
def rotZ (es : List Ev) (z : Int) : Bool := es.foldl (turnsZ z) false
theorem rotZ_snoc (es : List Ev) (e : Ev) (z : Int) : rotZ (es ++ [e]) z = turnsZ z (rotZ es z) e := by rw [rotZ, List.foldl_append]; rfl
theorem rotZ_nat (es : List Ev) (i : Nat) : rotZ es (i : Int) = rotten es i := by
  have : turnsZ (i : Int) = turns i := by
    funext r e
    unfold turnsZ turns
    by_cases h : e.at_ = i
    · rw [if_pos h, if_pos (by omega)]
    · rw [if_neg h, if_neg (by omega)]
  rw [rotZ, this]
  rfl
theorem rotZ_no {n : Nat} {z : Int} (hz : ¬ (0 ≤ z ∧ z < (n : Int))) : ∀ (es : List Ev), (∀ e ∈ es, e.Ok n) → rotZ es z = false := by
  intro es h
  have : ∀ (es : List Ev) (r : Bool), (∀ e ∈ es, e.Ok n) → es.foldl (turnsZ z) r = r := by
    intro es
    induction es with
    | nil => intro r _; rfl
    | cons e es ih =>
      intro r h
      have he := (h e List.mem_cons_self).at_
      rw [List.foldl_cons, ih _ (fun e' he' => h e' (List.mem_cons_of_mem _ he')), turnsZ, if_neg (by omega)]
  exact this es false h
theorem goes_len {n i : Nat} {b : List UInt8} {e : Ev} (hb : b.length = 64) (he : e.Ok n) : (goes i b e).length = 64 := by
  unfold goes
  split
  · split
    · rename_i h; exact he.wr h
    · rw [Dv.spoil_length]; exact hb
  · exact hb
theorem stored_len {n : Nat} (i : Nat) (es : List Ev) (h : ∀ e ∈ es, e.Ok n) : (stored es i).length = 64 := by
  have : ∀ (es : List Ev) (b : List UInt8), b.length = 64 → (∀ e ∈ es, e.Ok n) → (es.foldl (goes i) b).length = 64 := by
    intro es
    induction es with
    | nil => intro b hb _; exact hb
    | cons e es ih =>
      intro b hb h
      exact ih _ (goes_len hb (h e List.mem_cons_self)) (fun e' he' => h e' (List.mem_cons_of_mem _ he'))
  exact this es _ (full_length 0) h
end Ev
section
variable {w w' : World} {S T : Nat → Prop} {X k : Nat} {x y : Dv} {AL AW : Option Addr} {cL cW : Nat} {ls ws : List Em}
theorem Rg.rottenB (h : Rg w S X k x AL cL ls AW cW ws) (hg : x.gone = false) (z : Int) : x.rottenB z = Ev.rotZ (ls.map Em.ev) z := by
  by_cases hz : x.has z
  · rw [Dv.rottenB, decide_eq_true ⟨hg, hz⟩, Bool.true_and]
    unfold Dv.has at hz
    obtain ⟨i, rfl⟩ : ∃ i : Nat, z = (i : Int) := ⟨z.toNat, by omega⟩
    rw [Int.toNat_natCast, Ev.rotZ_nat]
    exact h.rel.rot hg i (by omega)
  · rw [Dv.rottenB, decide_eq_false (fun hh => hz hh.2), Bool.false_and]
    exact (Ev.rotZ_no (n := x.n) (fun hh => hz hh) _ h.rel.es).symm
theorem evs_next {ms : List Em} {j : Nat} {m : Em} (h : ms[j]? = some m) : (ms.take (j + 1)).map Em.ev = (ms.take j).map Em.ev ++ [m.ev] := by
  rw [List.take_add_one, h, List.map_append]
  rfl
set_option maxRecDepth 20000
set_option maxHeartbeats 1600000
theorem rfrotten_any (z : Int) (h1 : -9223372036854775808 ≤ z) (h2 : z < 9223372036854775808) (hk : k ≤ 100000) (h : Rg w S X k x AL cL ls AW cW ws) : Calls Try.prog 44 #[.pointer (some ⟨X, 0, none⟩), .int .i64 z] w fun e w' => e = .returned (.bool (x.rottenB z)) ∧ w' = w := by
  have c1 := h.c1
  have c3 := h.c3
  have hll := h.len
  cases hg : x.gone
  · rw [h.rottenB hg]
    rw [hg] at c3
    obtain ⟨nl, hnl⟩ : ∃ nl, nl = ls.length := ⟨_, rfl⟩
    rw [← hnl] at c1 hll
    have HN := Lib.hid hnl
    have HG := Lib.hid h
    clear hnl h
    go_enter Try.func44, Try.ntmps44
    go_wp2_with fail
    go_loopw [5, 6] (fun v i wr => ∃ j : Nat, j ≤ nl ∧ i = .int .i64 (j : Int) ∧ v = .bool (Ev.rotZ ((ls.take j).map Em.ev) z) ∧ wr = w) (fun _ i _ => nl - (intOf i).toNat)
    case atStart => exact ⟨0, by omega, rfl, rfl, rfl⟩
    case round =>
      obtain ⟨j, hj, rfl, rfl, rfl⟩ := hrel
      obtain ⟨r, hr⟩ : ∃ r, r = Ev.rotZ ((ls.take j).map Em.ev) z := ⟨_, rfl⟩
      rw [← hr]
      have Hr := Lib.hid hr
      clear hr
      by_cases hlt : j < nl
      · have hji : (j : Int) < (nl : Int) := by omega
        obtain ⟨m, hm⟩ : ∃ m, ls[j]? = some m := ⟨_, List.getElem?_eq_getElem (by rw [← HN.out]; exact hlt)⟩
        have Hnext := Lib.hid (evs_next hm)
        obtain ⟨g, rfl, e0, e1, e2, e3, -⟩ := HG.out.el.cell hm
        obtain ⟨ev, hev⟩ : ∃ ev, ev = m.ev := ⟨_, rfl⟩
        rw [← hev] at e0 e1 e2 e3 Hnext
        clear hm hev
        by_cases hz : (ev.at_ : Int) = z
        · have Hz := Lib.hid hz
          have hzz : ((ev.at_ : Int) == z) = true := by simpa using hz
          clear hz
          by_cases hmk : ev.mask = 0
          · rw [hmk] at e3
            have Hmk := Lib.hid hmk
            clear hmk
            go_wp2_with fail
            go_roundw
            case rel => exact ⟨j + 1, by omega, by go_num, by rw [Hnext.out, Ev.rotZ_snoc, Ev.turnsZ, if_pos Hz.out, decide_eq_false (fun hh => hh Hmk.out)], by trivial⟩
            case measure => simp [intOf]; omega
          · have hmi : ((ev.mask : Int) != 0) = true := by simpa using hmk
            have Hmk := Lib.hid hmk
            clear hmk
            go_wp2_with fail
            go_roundw
            case rel => exact ⟨j + 1, by omega, by go_num, by rw [Hnext.out, Ev.rotZ_snoc, Ev.turnsZ, if_pos Hz.out, decide_eq_true Hmk.out], by trivial⟩
            case measure => simp [intOf]; omega
        · have Hz := Lib.hid hz
          have hzz : ((ev.at_ : Int) == z) = false := by simpa using hz
          clear hz
          go_wp2_with fail
          go_roundw
          case rel => exact ⟨j + 1, by omega, by go_num, by rw [Hnext.out, Ev.rotZ_snoc, Ev.turnsZ, if_neg Hz.out, ← Hr.out], by trivial⟩
          case measure => simp [intOf]; omega
      · have hji : ¬ (j : Int) < (nl : Int) := by omega
        have hall : Ev.rotZ (ls.map Em.ev) z = r := by rw [Hr.out, List.take_of_length_le (by have := HN.out; omega)]
        have Hall := Lib.hid hall
        clear hall
        go_wp2_with fail
        go_ret
        exact ⟨by rw [Hall.out]; rfl, rfl⟩
  · rw [hg] at c3
    have e1 : x.rottenB z = false := by rw [Dv.rottenB, decide_eq_false (fun hh => by rw [hg] at hh; cases hh.1), Bool.false_and]
    rw [e1]
    clear e1 h
    obtain ⟨nl, hnl⟩ : ∃ nl, nl = ls.length := ⟨_, rfl⟩
    rw [← hnl] at c1 hll
    clear hnl
    by_cases h0 : (0 : Int) < (nl : Int)
    · go_enter Try.func44, Try.ntmps44
      go_wp2_with fail
      go_loopw [5, 6] (fun v i wr => i = .int .i64 0 ∧ v = .bool false ∧ wr = w) (fun _ i _ => 0)
      case atStart => exact ⟨rfl, rfl, rfl⟩
      case round =>
        obtain ⟨rfl, rfl, rfl⟩ := hrel
        go_wp2_with fail
        go_ret
        exact ⟨rfl, rfl⟩
    · go_enter Try.func44, Try.ntmps44
      go_wp2_with fail
      go_loopw [5, 6] (fun v i wr => i = .int .i64 0 ∧ v = .bool false ∧ wr = w) (fun _ i _ => 0)
      case atStart => exact ⟨rfl, rfl, rfl⟩
      case round =>
        obtain ⟨rfl, rfl, rfl⟩ := hrel
        go_wp2_with fail
        go_ret
        exact ⟨rfl, rfl⟩
end
end Go.Proofs.Ytmlmlmlbdjhfhaa

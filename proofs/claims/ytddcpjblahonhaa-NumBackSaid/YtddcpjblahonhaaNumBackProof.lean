/-
  The statement NumBackSaid: for every slice of items NumBack returns true, and its argument reads as before. No condition.
-/
import Derived.Test.YtddcpjblahonhaaRows
import Derived.Test.YtddcpjblahonhaaBackb
import Derived.ProofKit
import Derived.OpenShut
import Derived.ShutString
import Derived.ChangeOld
import Derived.Below
import Derived.Deep.Slices
import Derived.Deep.Fields
namespace Go.Proofs.Ytddcpjblahonhaa.numBack
open Go.ChangeShapes Go.WideShapes Go.ChangeAt Go.RowKit Go.Deep
set_option linter.unusedVariables false

theorem own : ownKnob Try.prog.godebug = none := by kernel_rfl
theorem laidOut : laidOutB Try.prog = true := by kernel_rfl
theorem cells_item : Try.prog.cellsOf 51 = 3 := by kernel_rfl
theorem cells_int : Try.prog.cellsOf 3 = 1 := by kernel_rfl
theorem cells_u64 : Try.prog.cellsOf 23 = 1 := by kernel_rfl
theorem cells_str : Try.prog.cellsOf 9 = 1 := by kernel_rfl

/-- One item, out of its three cells. -/
theorem item_of {H : Type} {enc : TypeId × Value → H} {w : World} {base : Nat} {spare : Nat → Bool} {held : Bool} {fuel : Nat} {cs : List Value} {y : DataW H × List MemPlace}
    (h : DataW.trod enc Try.prog w base spare held fuel 51 cs = some y) :
    ∃ x : It, cs = [.int .i64 x.wd, .int .u64 (x.num : Int), .string x.txt] ∧ -2 ^ 63 ≤ x.wd ∧ x.wd < 2 ^ 63 ∧ x.num < 2 ^ 64 ∧ x.txt.size ≤ maxLen := by
  obtain ⟨xs, m, _, _, hl, hxl, hf⟩ := DataW.trod_struct Try.underlying51 h
  rw [cells_item] at hl
  match cs, hl with
  | [c0, c1, c2], _ =>
    match xs, hxl with
    | [y0, y1, y2], _ =>
      have h0 : DataW.trod enc Try.prog w base spare held m 3 (([c0, c1, c2].drop 0).take (Try.prog.cellsOf 3)) = some y0 := hf 0 _ rfl
      have h1 : DataW.trod enc Try.prog w base spare held m 23 (([c0, c1, c2].drop 1).take (Try.prog.cellsOf 23)) = some y1 := hf 1 _ rfl
      have h2 : DataW.trod enc Try.prog w base spare held m 9 (([c0, c1, c2].drop 2).take (Try.prog.cellsOf 9)) = some y2 := hf 2 _ rfl
      rw [cells_int] at h0
      rw [cells_u64] at h1
      rw [cells_str] at h2
      obtain ⟨a, e0, _, w0⟩ := DataW.trod_int Try.underlying3 (show DataW.trod enc Try.prog w base spare held m 3 [c0] = some y0 from h0)
      obtain ⟨b, e1, _, w1⟩ := DataW.trod_int Try.underlying23 (show DataW.trod enc Try.prog w base spare held m 23 [c1] = some y1 from h1)
      obtain ⟨s, e2, _, w2⟩ := DataW.trod_string Try.underlying9 (show DataW.trod enc Try.prog w base spare held m 9 [c2] = some y2 from h2)
      have b0 := bounds_i64 w0
      have b1 := bounds_u64 w1
      obtain ⟨k, rfl⟩ := Int.eq_ofNat_of_zero_le b1.1
      injection e0 with e0
      injection e1 with e1
      injection e2 with e2
      subst e0; subst e1; subst e2
      exact ⟨⟨a, k, s⟩, rfl, by show -2 ^ 63 ≤ a; omega, by show a < 2 ^ 63; omega, by show k < 2 ^ 64; omega, w2⟩

/-- An argument of type []Item reads as items. -/
theorem items_of {H : Type} {enc : TypeId × Value → H} {w : World} {base : Nat} {held : Bool} {fuel : Nat} {a0 : Option Addr} {len0 cap0 : Nat} {y : DataW H × List MemPlace}
    (h : DataW.trod enc Try.prog w base (fun _ => true) held fuel 48 [.slice a0 len0 cap0] = some y) : ∃ its : List It, Items w a0 len0 cap0 its := by
  rcases open_slice Try.underlying48 h with ⟨hcs, _⟩ | ⟨a, len, cap, m, n, D, Pl, hcs, _, hl, hm, hmm, _, hi⟩
  · simp at hcs
    obtain ⟨rfl, rfl, rfl⟩ := hcs
    exact ⟨[], rfl, Nat.le_refl _, by decide, fun i x hx => by simp at hx, fun i x hx => by simp at hx⟩
  · simp at hcs
    obtain ⟨rfl, rfl, rfl⟩ := hcs
    simp only [if_true] at hmm
    have each : ∀ i, i < len0 → ∃ x : It, (∀ j u, [Value.int .i64 x.wd, .int .u64 (x.num : Int), .string x.txt][j]? = some u → w.cell? ((a.add (i * 3)).add j) = some u) ∧ -2 ^ 63 ≤ x.wd ∧ x.wd < 2 ^ 63 ∧ x.num < 2 ^ 64 ∧ x.txt.size ≤ maxLen := by
      intro i hi'
      obtain ⟨cs', hc, ht⟩ := hi i (by omega)
      obtain ⟨x, rfl, hx⟩ := item_of ht
      rw [cells_item] at hc
      obtain ⟨_, _, hat⟩ := World.cells?_some hc
      refine ⟨x, fun j u hu => ?_, hx⟩
      have hj : j < 3 := by
        rcases Nat.lt_or_ge j 3 with h' | h'
        · exact h'
        · rw [List.getElem?_eq_none (by simpa using h')] at hu; cases hu
      rw [hat j hj, hu]
    have pick : ∀ k, k ≤ len0 → ∃ its : List It, its.length = k ∧ ∀ i x, its[i]? = some x → (∀ j u, [Value.int .i64 x.wd, .int .u64 (x.num : Int), .string x.txt][j]? = some u → w.cell? ((a.add (i * 3)).add j) = some u) ∧ -2 ^ 63 ≤ x.wd ∧ x.wd < 2 ^ 63 ∧ x.num < 2 ^ 64 ∧ x.txt.size ≤ maxLen := by
      intro k
      induction k with
      | zero => exact fun _ => ⟨[], rfl, fun i x hx => by simp at hx⟩
      | succ k ih =>
        intro hk
        obtain ⟨its, hl', hall⟩ := ih (by omega)
        obtain ⟨x, hx⟩ := each k (by omega)
        refine ⟨its ++ [x], by simp [hl'], fun i z hz => ?_⟩
        rcases Nat.lt_or_ge i k with h' | h'
        · rw [List.getElem?_append_left (by omega)] at hz
          exact hall i z hz
        · rw [List.getElem?_append_right (by omega)] at hz
          have hik : i = k := by
            rcases Nat.lt_or_ge (i - its.length) 1 with h'' | h''
            · omega
            · rw [List.getElem?_eq_none (by simpa using h'')] at hz; cases hz
          subst hik
          rw [hl', Nat.sub_self] at hz
          injection hz with hz
          subst hz
          exact hx
    obtain ⟨its, hlen, hall⟩ := pick len0 (Nat.le_refl _)
    refine ⟨its, hlen, hl, hm, fun i x hx => ?_, fun i x hx => (hall i x hx).2⟩
    obtain ⟨hcell, _⟩ := hall i x hx
    obtain ⟨b, o, spot⟩ := a
    have hspot : spot = none := by
      have hpos : 0 < its.length := by
        rcases Nat.lt_or_ge i its.length with h' | h'
        · omega
        · rw [List.getElem?_eq_none h'] at hx; cases hx
      have h0 := (hall 0 its[0] (List.getElem?_eq_getElem hpos)).1 0 _ rfl
      simpa [Addr.add] using World.cell?_spot h0
    subst hspot
    simp only [Addr.add_lit] at hcell
    exact ⟨b, o, rfl, hcell 0 _ rfl, hcell 1 _ rfl, hcell 2 _ rfl⟩

set_option maxRecDepth 100000 in
theorem lifted (os : Os) (started : os.Started) (H : Type) (enc : TypeId × Value → H) :
    ReturnsInHanded {} Try.checked os 6 .any (Rows.numBackSpec.pre6 enc Try.prog Try.f6 Rows.numBackRow.domain false) (Rows.numBackSpec.post enc Try.prog Try.f6 false true false false) := by
  refine returnsInHanded_of_change (C := Try.checked) own started (by kernel_rfl) Try.func6
    (ChangeSpec.witness6 (enc := enc) (C := Try.checked) false ⟨#[], #[.slice none 0 0], []⟩ 8 (by kernel_rfl) (by kernel_rfl) (by kernel_rfl) (by kernel_rfl)) ?_
  intro W base args ds gs before hval0 hW hcnd _
  have hval : ∀ (j : Nat) t v, Try.f6.params[j]? = some t → args[j]? = some v → Value.okWide Try.prog W .any base t v := hval0
  have hW' := hW
  obtain ⟨p, q, hA0, hV, rfl, hfz, hnd⟩ := hW
  have hA : DataW.TrodAll enc Try.prog W 0 (fun _ => true) true Try.f6.params.toList args.toList ds p := hA0
  rw [Try.params6] at hA hval
  obtain ⟨v0, vs0, d0, ds0, p0, q0, hargs, rfl, rfl, h0, r0⟩ := trodAll_cons hA
  obtain ⟨rfl, rfl, rfl⟩ := trodAll_nil r0
  obtain rfl : args = #[v0] := by cases args; simp_all
  obtain ⟨rfl, rfl⟩ := trodVars_none hV
  obtain ⟨a0, len0, cap0, rfl⟩ := okWide_slice Try.underlying48 (hval 0 48 v0 rfl rfl)
  have k0 := h0
  have lt0 : ∀ x ∈ p0, x.block < W.heap.size := by obtain ⟨m, hm⟩ := k0; exact DataW.trod_lt m _ _ _ hm
  obtain ⟨its, w0⟩ : ∃ its, Items W a0 len0 cap0 its := by
    obtain ⟨fuel, hf⟩ := h0
    exact items_of hf
  clear hA0 hval0
  refine (numBack_walk a0 len0 cap0 its W w0).mono fun e W' ⟨he, bel⟩ => ?_
  subst he
  exact ⟨_, rfl, _, _, _, [], _, [], hW', trodAll_mk1 (shut_bool Try.underlying4 _), (trodAll_cons_mk (Below.trod laidOut (by kernel_rfl) (of_decide_eq_true (by kernel_rfl)) k0 bel lt0) trodAll_mk0), rfl, bel.frame _, fun h => by cases h⟩

theorem over : Rows.numBackRow.holds Try.pinned (OpenSpec.ofChange Rows.numBackSpec) :=
  OpenClaim.holds_of_wide 6 Try.f6 rfl rfl rfl rfl rfl rfl rfl ⟨rfl, rfl, rfl, rfl, rfl⟩ rfl rfl rfl rfl rfl (by kernel_rfl) Try.func6 (by kernel_rfl)
    (of_decide_eq_true (by kernel_rfl)) (by unfold Func.isWrapper; first | (rw [if_pos (by decide +kernel)]; kernel_rfl) | (rw [if_neg (by decide +kernel)]; exact ⟨rfl, rfl⟩))
    (fun os started H enc _ => lifted os started H enc)

/-- The statement. -/
theorem proved : Rows.NumBackSaid := over
#print axioms proved
end Go.Proofs.Ytddcpjblahonhaa.numBack

/-
  The document's map (layer 12): New, Has, Free, First, Run and Least. No condition but bounds.
-/
import Derived.Test.YthkflghekgbgcaaDoorEbl
namespace Go.Proofs.YthkflghekgbgcaaDoor
open Go.RowKit Go.Proofs
set_option linter.unusedVariables false

/-- The document's map at block X: so many places, and the list of those that are taken, which lies at A. -/
structure Xp (w : World) (X n : Nat) (f : Nat → Bool) (A : Option Addr) : Prop where
  ex : ∃ c, w.heap[X]? = some (.cells #[.int .i64 (n : Int), .slice A (cntL n f) c] 36 (0, 0)) ∧ Sl w 1 A (cntL n f) c (ncells (plc n 0 f true))
  top : n ≤ 65536
section
variable {w w' : World} {X n : Nat} {f : Nat → Bool} {A : Option Addr}
theorem Xp.lt (h : Xp w X n f A) : X < w.heap.size := by
  obtain ⟨c, h1, _⟩ := h.ex
  exact block_lt h1
theorem Xp.fr {S : Nat → Prop} (h : Xp w X n f A) (hf : Fr S w w') (hX : ¬ S X) (hA : 0 < cntL n f → ∀ b o, A = some ⟨b, o, none⟩ → ¬ S b) : Xp w' X n f A := by
  obtain ⟨c, h1, h2⟩ := h.ex
  exact ⟨⟨c, hf.row_some h1 hX, h2.fr hf fun b o h0 e => hA h0 b o e⟩, h.top⟩
theorem Xp.later (h : Xp w X n f A) (hb : Below w.heap.size w w') : Xp w' X n f A := h.fr (Fr.of_below hb : Fr (fun _ => False) w w') (fun h => h) (fun _ _ _ _ h => h)
theorem Xp.ltA (h : Xp w X n f A) (h0 : 0 < cntL n f) : ∀ b o, A = some ⟨b, o, none⟩ → b < w.heap.size := by
  obtain ⟨c, _, h2⟩ := h.ex
  exact fun b o e => h2.lt (by decide) h0 e
end
theorem cnt_le {n : Nat} {f : Nat → Bool} : cntL n f ≤ n := plc_len_le

/-- What the document's New answers. -/
def RetXp (n : Nat) (f : Nat → Bool) (w : World) (e : Ending) (w' : World) : Prop := ∃ X, e = .returned (.pointer (some ⟨X, 0, none⟩)) ∧ Xp w' X n f none ∧ Below w.heap.size w w' ∧ w.heap.size ≤ X
theorem plc_none (n a : Nat) : plc n a (fun _ => false) true = [] := by
  rw [plc, List.filter_eq_nil_iff]
  intro i _
  simp
set_option maxRecDepth 20000 in
set_option maxHeartbeats 800000 in
theorem rmpnew_yes (n : Nat) (hn : n ≤ 65536) (w : World) :
    Calls Tryd.prog 9 #[.int .i64 (n : Int)] w (RetXp n (fun _ => false) w) := by
  have hn1 : ¬ (65536 : Int) < (n : Int) := by omega
  go_enter Tryd.func9, Tryd.ntmps9
  go_wp2_with fail
  go_ret
  refine ⟨w.heap.size, rfl, ⟨⟨0, ?_, ?_⟩, hn⟩, (Below.refl _ _).alloc (Nat.le_refl _) _, Nat.le_refl _⟩
  · rw [cntL, plc_none]
    exact heap_alloc_new w _
  · rw [cntL, plc_none]
    exact Sl.nil _ 1 0 (by decide)
set_option maxRecDepth 20000 in
theorem rmpnew_no (z : Int) (h : ¬ (0 ≤ z ∧ z ≤ 65536)) (w : World) :
    Calls Tryd.prog 9 #[.int .i64 z] w fun e w' => e = .returned (.pointer none) ∧ w' = w := by
  by_cases h0 : z < 0
  · go_enter Tryd.func9, Tryd.ntmps9
    go_wp2_with fail
    go_ret
    exact ⟨rfl, rfl⟩
  · have h1 : 65536 < z := by omega
    clear h
    go_enter Tryd.func9, Tryd.ntmps9
    go_wp2_with fail
    go_ret
    exact ⟨rfl, rfl⟩

set_option maxRecDepth 20000 in
set_option maxHeartbeats 800000 in
theorem rmphas_any (X n : Nat) (f : Nat → Bool) (A : Option Addr) (i : Int) (w : World) (h : Xp w X n f A) :
    Calls Tryd.prog 13 #[.pointer (some ⟨X, 0, none⟩), .int .i64 i] w fun e w' => e = .returned (.bool (inB n i && f i.toNat)) ∧ w' = w := by
  obtain ⟨c, h1, h2⟩ := h.ex
  have hcn : cntL n f ≤ n := cnt_le
  have htop := h.top
  have hmem := fun x => plc_mem (n := n) (a := 0) (f := f) (t := true) (i := x)
  obtain ⟨q, hq⟩ : ∃ q, q = cntL n f := ⟨_, rfl⟩
  rw [← hq] at h1 h2 hcn
  have hql : (plc n 0 f true).length = q := hq.symm
  obtain ⟨l, hl⟩ : ∃ l, l = plc n 0 f true := ⟨_, rfl⟩
  rw [← hl] at h2 hql hmem
  have c1 : w.cell? ⟨X, 1, none⟩ = some (.slice A q c) := by rw [cell_of_row _ _ _ _ _ _ h1]; rfl
  have H2 := Lib.hid h2
  have Hm := Lib.hid hmem
  have Hl := Lib.hid hql
  clear h h1 h2 hq hql hl hmem
  go_enter Tryd.func13, Tryd.ntmps13
  go_wp2_with fail
  go_loopw [5] (fun k wr => ∃ j : Nat, j ≤ q ∧ k = .int .i64 (j : Int) ∧ wr = w ∧ ∀ x, x < j → ((l.getD x 0 : Nat) : Int) ≠ i) (fun k _ => q - (intOf k).toNat)
  case atStart => exact ⟨0, by omega, rfl, rfl, fun x hx => absurd hx (by omega)⟩
  case round =>
    obtain ⟨j, hj, rfl, rfl, hno⟩ := hrel
    have Hno := Lib.hid hno
    clear hno
    by_cases hlt : j < q
    · obtain ⟨b, o, rfl, hc⟩ := H2.out.at_ hlt
      have hcell := hc j _ (ncells_get l j (by rw [Hl.out]; exact hlt))
      rw [show l[j]'(by rw [Hl.out]; exact hlt) = l.getD j 0 from by simp [show j < l.length by rw [Hl.out]; exact hlt]] at hcell
      have hjm : l.getD j 0 ∈ l := up_mem (by rw [Hl.out]; exact hlt)
      obtain ⟨x, hx⟩ : ∃ x, x = l.getD j 0 := ⟨_, rfl⟩
      rw [← hx] at hcell hjm
      have Hx := Lib.hid hx
      have hji : (j : Int) < (q : Int) := by omega
      clear hc hx
      by_cases hxi : (x : Int) = i
      · have hz : ((x : Int) == i) = true := by simpa using hxi
        have hres : (inB n i && f i.toNat) = true := by
          have := (Hm.out x).1 hjm
          rw [← hxi, Int.toNat_natCast, this.2.2]
          simp [inB]
          omega
        have Hres := Lib.hid hres
        clear hres hxi hjm
        go_wp2_with fail
        go_ret
        exact ⟨by rw [Hres.out]; rfl, rfl⟩
      · have hz : ((x : Int) == i) = false := by simpa using hxi
        have Hxi := Lib.hid hxi
        clear hxi hjm
        go_wp2_with fail
        go_roundw
        case rel => exact ⟨j + 1, by omega, by go_num, trivial, fun y hy => by
          by_cases e : y = j
          · rw [e, ← Hx.out]; exact Hxi.out
          · exact Hno.out y (by omega)⟩
        case measure => simp [intOf]; omega
    · have hji : ¬ (j : Int) < (q : Int) := by omega
      have hres : (inB n i && f i.toNat) = false := by
        cases hb : (inB n i && f i.toNat)
        · rfl
        · rw [Bool.and_eq_true] at hb
          have hin : 0 ≤ i ∧ i < (n : Int) := by simpa [inB] using hb.1
          obtain ⟨k, hk, e⟩ := up_at ((Hm.out i.toNat).2 ⟨Nat.zero_le _, by omega, hb.2⟩)
          exact absurd (by rw [e]; omega) (Hno.out k (by rw [Hl.out] at hk; omega))
      have Hres := Lib.hid hres
      clear hres
      go_wp2_with fail
      go_ret
      exact ⟨by rw [Hres.out]; rfl, rfl⟩
end Go.Proofs.YthkflghekgbgcaaDoor

/-
  Contracts of package matrix's twice and Cauchy. Condition: the field is one that New made.
-/
import Derived.Test.YtccnoflgbopjlaaMdp
import Derived.Test.YtccnoflgbopjlaaMdq
namespace Go.Proofs.Ytccnoflgbopjlaa
open Go.RowKit Go.Proofs
set_option linter.unusedVariables false

/-- Does a byte stand twice? -/
def twiceB (l : List UInt8) : Bool := decide (¬ l.Nodup)
theorem twiceB_t {l : List UInt8} {k : Nat} (hk : k < l.length) (h : l[k] ∈ l.take k) : twiceB l = true := by
  refine decide_eq_true fun hn => ?_
  have h1 := (List.take_append_drop k l) ▸ hn
  rw [List.nodup_append] at h1
  refine h1.2.2 _ h _ ?_ rfl
  rw [List.drop_eq_getElem_cons hk]
  exact List.mem_cons_self
theorem nodup_next {l : List UInt8} {k : Nat} (hk : k < l.length) (h : (l.take k).Nodup) (hx : ¬ l[k] ∈ l.take k) : (l.take (k + 1)).Nodup := by
  rw [← List.take_append_getElem hk, List.nodup_append]
  refine ⟨h, by simp, fun a ha b hb e => ?_⟩
  rw [List.mem_singleton] at hb
  exact hx (hb ▸ e ▸ ha)

set_option maxRecDepth 20000 in
set_option maxHeartbeats 1600000 in
theorem twice_any (A1 : Option Addr) (n1 c1 : Nat) (l1 : List UInt8) (A2 : Option Addr) (n2 c2 : Nat) (l2 : List UInt8) (h1 : 1 ≤ n1) (h2 : n1 ≤ 255) (h2' : 1 ≤ n2) (h3 : n2 ≤ 255) (w : World) (s1 : Sl w 1 A1 n1 c1 (cells l1)) (s2 : Sl w 1 A2 n2 c2 (cells l2)) :
    Calls Try.prog 48 #[.slice A1 n1 c1, .slice A2 n2 c2] w fun e w' => e = .returned (.bool (twiceB (l1 ++ l2))) ∧ Below w.heap.size w w' := by
  have hz := zero_met w
  obtain ⟨l, hll⟩ : ∃ l, l = l1 ++ l2 := ⟨_, rfl⟩
  rw [← hll]
  have Hll := Lib.hid hll; clear hll
  have S1 := Lib.hid s1; clear s1
  have S2 := Lib.hid s2; clear s2
  go_enter Try.func48, Try.ntmps48
  go_wp2_with fail
  have x0 := alloc2_old w (.cells (metA []) 98) (.cells #[.slice A1 n1 c1, .slice A2 n2 c2] 22)
  have x1 := alloc2_new w (.cells (metA []) 98) (.cells #[.slice A1 n1 c1, .slice A2 n2 c2] 22)
  have hb0 : Below w.heap.size w ((w.alloc (.cells (metA []) 98)).alloc (.cells #[.slice A1 n1 c1, .slice A2 n2 c2] 22)) := ((Below.refl _ _).alloc (Nat.le_refl _) _).alloc (by simp) _
  have hh := concat_any (w.heap.size + 1) A1 n1 c1 l1 A2 n2 c2 l2 h1 h2 h2' h3 _ x1 (S1.out.below hb0 (Nat.le_refl _)) (S2.out.below hb0 (Nat.le_refl _))
  refine hh.mono ?_; clear hh; rintro e w1 ⟨A, N, c, rfl, sl, hb1, hmine⟩
  rw [← Hll.out] at sl hmine
  have hne : ∀ b o, 0 < N → A = some ⟨b, o, none⟩ → b ≠ w.heap.size := fun b o hn hA => by
    obtain ⟨g, cur, hA', hB, _⟩ := hmine hn
    rw [hA] at hA'
    injection hA' with hA'
    injection hA' with hA' _
    simp at hB
    omega
  have Hne0 := Lib.hid hne; clear hne hmine
  have hbw : Below w.heap.size w w1 := hb0.trans (hb1.mono (by simp; omega))
  have x0' := (hb1.block _ (block_lt x0)).trans x0
  have hlim := sl.lim
  unfold maxLen at hlim
  have hl := sl.len
  rw [cells_length, Nat.mul_one] at hl
  have Sl0 := Lib.hid sl; clear sl
  have Hl := Lib.hid hl; clear hl
  clear x0 x1 hb0 hb1 hz S1 S2
  go_wp2_with fail
  go_loopw [13] (fun i wr => ∃ k : Nat, k ≤ N ∧ i = .int .i64 (k : Int) ∧ Below w.heap.size w wr ∧ Sl wr 1 A N c (cells l) ∧ wr.heap[w.heap.size]? = some (.cells (metA (l.take k)) 98 (0, 0)) ∧ (l.take k).Nodup ∧ (∀ b o, 0 < N → A = some ⟨b, o, none⟩ → b ≠ w.heap.size)) (fun i _ => N - (intOf i).toNat)
  case atStart => exact ⟨0, by omega, rfl, hbw, Sl0.out, by simpa using x0', by simp, Hne0.out⟩
  case round =>
    clear hbw x0' Sl0
    obtain ⟨k, hk, rfl, hb, sl, hx, hnd, hne⟩ := hrel
    have Hnd := Lib.hid hnd; clear hnd
    by_cases hlt : k < N
    · have hkl : k < l.length := by rw [Hl.out]; exact hlt
      obtain ⟨b, o, rfl, hc⟩ := sl.at_ hlt
      have hcell := hc k _ (cells_get l k hkl)
      have Hc := Lib.hid hc; clear hc
      rw [bv] at hcell
      have Sl1 := Lib.hid sl; clear sl
      have hbn := hne b o (by omega) rfl
      obtain ⟨x, hxx⟩ : ∃ x, x = l[k] := ⟨_, rfl⟩
      rw [← hxx] at hcell
      have Hxx := Lib.hid hxx; clear hxx
      have hx256 := x.toNat_lt
      have hcm : wr.cell? ⟨w.heap.size, x.toNat, none⟩ = some (.bool (decide (x ∈ l.take k))) := by rw [cell_of_row _ _ _ _ _ _ hx]; exact metA_get _ x
      have hfm : wr.frozen? ⟨w.heap.size, x.toNat, none⟩ = false := frozen_of_row _ _ _ _ _ hx
      have Hx := Lib.hid hx; clear hx
      have Hne := Lib.hid hne; clear hne
      by_cases hm : x ∈ l.take k
      · rw [decide_eq_true hm] at hcm
        have Hm := Lib.hid hm; clear hm
        go_wp2_with fail
        go_ret
        exact ⟨by rw [twiceB_t hkl (by rw [← Hxx.out]; exact Hm.out)]; rfl, hb⟩
      · rw [decide_eq_false hm] at hcm
        have Hm := Lib.hid hm; clear hm
        have hq : Fr (fun k => k = w.heap.size) wr (wr.setCell ⟨w.heap.size, x.toNat, none⟩ (.bool true)) := Fr.setCell (S := fun k => k = w.heap.size) (Fr.refl _ _) (.inr rfl) _
        have hs2 := heap_setCell_same wr w.heap.size x.toNat _ _ (.bool true) Hx.out
        rw [metA_set, Hxx.out, List.take_append_getElem hkl, ← Hxx.out] at hs2
        have Hq := Lib.hid hq; clear hq
        have Hs2 := Lib.hid hs2; clear hs2
        go_wp2_with fail
        go_roundw
        case rel => exact ⟨k + 1, by omega, by go_num, hb.setCell (Nat.le_refl _) _, Sl1.out.fr Hq.out (fun b' o' hn hA hk => Hne.out b' o' hn hA hk), Hs2.out, nodup_next hkl Hnd.out (by rw [← Hxx.out]; exact Hm.out), Hne.out⟩
        case measure => simp [intOf]; omega
    · obtain rfl : k = N := by omega
      go_wp2_with fail
      go_ret
      exact ⟨by rw [show twiceB l = false from decide_eq_false (fun h => h (by have := Hnd.out; rwa [List.take_of_length_le (by rw [Hl.out]; exact Nat.le_refl _)] at this))]; rfl, hb⟩
end Go.Proofs.Ytccnoflgbopjlaa

/-
  The contract of the law's missing of layer 6, and what it makes of shards. No condition but bounds.
-/
import Derived.Test.YtgoomiimlfdcmaaGreatDme
import Derived.Test.YtgoomiimlfdcmaaGreatDmd
namespace Go.Proofs.YtgoomiimlfdcmaaGreat
open Go.RowKit Go.Proofs
set_option linter.unusedVariables false

/-- Rows, of which those with a number in a list are missing. -/
def missL (rs : List (List UInt8)) (gone : List Int) (j : Nat) : List (List UInt8) := (List.range j).map fun i => if ((i : Nat) : Int) ∈ gone then [] else rs.getD i []
theorem missL_length (rs : List (List UInt8)) (gone : List Int) (j : Nat) : (missL rs gone j).length = j := by simp [missL]
theorem missL_next (rs : List (List UInt8)) (gone : List Int) (j : Nat) : missL rs gone j ++ [if ((j : Nat) : Int) ∈ gone then [] else rs.getD j []] = missL rs gone (j + 1) := by simp [missL, List.range_succ]
theorem missL_getD (rs : List (List UInt8)) (gone : List Int) (n i : Nat) (h : i < n) : (missL rs gone n).getD i [] = if ((i : Nat) : Int) ∈ gone then [] else rs.getD i [] := by simp [missL, h]

set_option maxRecDepth 20000 in
set_option maxHeartbeats 3200000 in
theorem missing_any (A : Option Addr) (N c : Nat) (rs : List (List UInt8)) (Ag : Option Addr) (q cg : Nat) (gone : List Int) (w : World) (hg : Gr w A N c rs) (hs : Sl w 1 Ag q cg (icells gone)) (hN : N ≤ 255) (hW : ∀ r ∈ rs, r.length ≤ 1048576) :
    Calls Tryz.prog 24 #[.slice A N c, .slice Ag q cg] w fun e w' => (∃ A' c', e = .returned (.slice A' N c') ∧ Gr w' A' N c' (missL rs gone N)) ∧ Below w.heap.size w w' := by
  have hql := hs.ofIcells
  have hlim := hs.lim
  unfold maxLen at hlim
  have Hg := Lib.hid hg
  have Hs := Lib.hid hs
  have HW := Lib.hid hW
  have Hql := Lib.hid hql
  clear hg hs hW hql
  go_enter Tryz.func24, Tryz.ntmps24
  go_wp2_with fail
  go_loopw [5, 6] (fun v i wr => ∃ (j : Nat) (A' : Option Addr) (c' : Nat), j ≤ N ∧ i = .int .i64 (j : Int) ∧ v = .slice A' j c' ∧ Gg wr w.heap.size A' j c' (missL rs gone j) ∧ Below w.heap.size w wr) (fun _ i _ => N - (intOf i).toNat)
  case atStart => exact ⟨0, none, 0, by omega, rfl, rfl, by simpa [missL] using Gg.nil w w.heap.size, Below.refl _ _⟩
  case round =>
    obtain ⟨wl, rfl⟩ : ∃ x, x = wr := ⟨_, rfl⟩
    obtain ⟨j, A', c', hj, rfl, rfl, hG, hb⟩ := hrel
    have Gq := Lib.hid hG
    have Hb := Lib.hid hb
    have hszl := hb.size
    clear hG hb
    by_cases hlt : j < N
    · obtain ⟨b, o, rfl, hcr⟩ := (Hg.out.later Hb.out).at_ (by omega)
      obtain ⟨Ar, cr, q0, sr⟩ := hcr j _ (Hg.out.get hlt)
      have hrW := HW.out _ (List.mem_of_getElem? (Hg.out.get hlt))
      have hnext := missL_next rs gone j
      obtain ⟨r, hr⟩ : ∃ r, r = rs.getD j [] := ⟨_, rfl⟩
      rw [← hr] at q0 sr hrW hnext
      obtain ⟨L, hL⟩ : ∃ L, L = r.length := ⟨_, rfl⟩
      rw [← hL] at q0 sr hrW
      have HL := Lib.hid hL
      have Hnext := Lib.hid hnext
      have Sr := Lib.hid sr
      have hwin : wl.heap.size ≤ (wl.alloc (.cells #[] 5)).heap.size := by simp
      have q0a : (wl.alloc (.cells #[] 5)).cell? ⟨b, o + j, none⟩ = some (.slice Ar L cr) := (World.cell?_alloc_lt wl _ _ (World.block_lt_of_cell? wl _ q0)).trans q0
      clear hcr sr hr hL hnext
      go_wp2_with (at_builtin; refine wpList_append_bm (B := wl.heap.size) rfl (.tmp 15) (.tmp 19) rfl rfl (Own.full (Sl.empty _ 1 _ 0 (by decide))) hwin Ar L cr r rfl (Sr.out.alloc _) ?pb ?pc)
      case pb => omega
      intro A2 c2 w5 ho2 hb2 hr2
      have hb5 : Below wl.heap.size wl w5 := ((Below.refl _ _).alloc (Nat.le_refl _) _).trans hb2
      have hs5 : Sl w5 1 A2 L c2 (cells r) := by simpa using ho2.sl
      have hoth : Oth A' A2 L := fun b1 o1 o2 hn e e' => by
        have h5 := ownsRow_new (by simpa using hr2 hn) hn e
        have := (Gq.out.own _ _ e').2
        omega
      have G5 := Lib.hid (Gq.out.later hb5)
      have Hb5 := Lib.hid (Hb.out.trans (hb5.mono hszl))
      have hsz5 := Hb5.out.size
      have Hs5 := Lib.hid hs5
      have Ho := Lib.hid hoth
      have Hgone := Lib.hid (Hs.out.below Hb5.out (Nat.le_refl _))
      clear ho2 hb2 hr2 hb5 hs5 hoth q0 q0a
      go_wp2_with fail
      go_loopw [7, 8] (fun rv jv wi => ∃ x : Nat, x ≤ q ∧ jv = .int .i64 (x : Int) ∧ ((rv = .slice none 0 0 ∧ (j : Int) ∈ gone.take x) ∨ (rv = .slice A2 L c2 ∧ (j : Int) ∉ gone.take x)) ∧ wi = w5) (fun _ jv _ => q - (intOf jv).toNat)
      case atStart => exact ⟨0, by omega, rfl, .inr ⟨rfl, by simp⟩, rfl⟩
      case round =>
        obtain ⟨x, hx, rfl, hrv, rfl⟩ := hrel
        by_cases hxq : x < q
        · obtain ⟨bh, oh, rfl, hch⟩ := Hgone.out.at_ hxq
          have hxl : x < gone.length := by rw [Hql.out]; exact hxq
          have hcell := hch x _ (icells_get gone x hxl)
          have htk : gone.take (x + 1) = gone.take x ++ [gone[x]] := by simp
          obtain ⟨z, hz⟩ : ∃ z, z = gone[x] := ⟨_, rfl⟩
          rw [← hz] at hcell htk
          have Htk := Lib.hid htk
          have hxi : (x : Int) < (q : Int) := by omega
          have Hrv := Lib.hid hrv
          clear hch hz htk
          by_cases hzj : z = (j : Int)
          · have hzb : (z == (j : Int)) = true := by simpa using hzj
            have Hzj := Lib.hid hzj
            clear hrv hzj
            go_wp2_with fail
            go_roundw
            case rel => exact ⟨x + 1, by omega, by go_num, .inl ⟨rfl, by rw [Htk.out, Hzj.out]; simp⟩, trivial⟩
            case measure => simp [intOf]; omega
          · have hzb : (z == (j : Int)) = false := by simpa using hzj
            have Hzj := Lib.hid hzj
            clear hzj
            rcases hrv with ⟨rfl, hm⟩ | ⟨rfl, hm⟩
            · have Hm := Lib.hid hm
              clear hm
              go_wp2_with fail
              go_roundw
              case rel => exact ⟨x + 1, by omega, by go_num, .inl ⟨rfl, by rw [Htk.out]; exact List.mem_append_left _ Hm.out⟩, trivial⟩
              case measure => simp [intOf]; omega
            · have Hm := Lib.hid hm
              clear hm
              go_wp2_with fail
              go_roundw
              case rel => exact ⟨x + 1, by omega, by go_num, .inr ⟨rfl, by
                rw [Htk.out]
                intro h'
                rcases List.mem_append.1 h' with h' | h'
                · exact Hm.out h'
                · simp at h'
                  exact Hzj.out h'.symm⟩, trivial⟩
              case measure => simp [intOf]; omega
        · obtain rfl : x = q := by omega
          have hxi : ¬ ((x : Int) < (x : Int)) := by omega
          rw [List.take_of_length_le (by rw [Hql.out]; exact Nat.le_refl _)] at hrv
          rcases hrv with ⟨rfl, hm⟩ | ⟨rfl, hm⟩
          · have hn2 := Hnext.out
            rw [if_pos hm] at hn2
            have Hn2 := Lib.hid hn2
            clear hm hn2
            go_wp2_with (at_builtin; refine wpList_append_g1 (B := w.heap.size) rfl (.tmp 33) (.tmp 35) rfl rfl G5.out hsz5 none 0 0 [] rfl (show Sl _ 1 none 0 0 (cells []) from Sl.nil _ 1 0 (by decide)) (fun b1 o1 o2 hn _ _ => absurd hn (by decide)) rfl ?qb ?qc)
            case qb => omega
            intro A4 c4 w4 hG4 hb4 hf4
            rw [Hn2.out] at hG4
            have HG4 := Lib.hid hG4
            have Hb4 := Lib.hid (Hb5.out.trans hb4)
            clear hG4 hb4 hf4
            go_wp2_with fail
            go_roundw
            case rel => exact ⟨j + 1, A4, c4, by omega, by go_num, rfl, HG4.out, Hb4.out⟩
            case measure => simp [intOf]; omega
          · have hn2 := Hnext.out
            rw [if_neg hm] at hn2
            have Hn2 := Lib.hid hn2
            clear hm hn2
            go_wp2_with (at_builtin; refine wpList_append_g1 (B := w.heap.size) rfl (.tmp 33) (.tmp 35) rfl rfl G5.out hsz5 A2 L c2 r HL.out Hs5.out Ho.out rfl ?rb ?rc)
            case rb => omega
            intro A4 c4 w4 hG4 hb4 hf4
            rw [Hn2.out] at hG4
            have HG4 := Lib.hid hG4
            have Hb4 := Lib.hid (Hb5.out.trans hb4)
            clear hG4 hb4 hf4
            go_wp2_with fail
            go_roundw
            case rel => exact ⟨j + 1, A4, c4, by omega, by go_num, rfl, HG4.out, Hb4.out⟩
            case measure => simp [intOf]; omega
    · obtain rfl : j = N := by omega
      go_wp2_with fail
      go_ret
      exact ⟨⟨A', c', rfl, Gq.out.gr⟩, Hb.out⟩

theorem filt_add (p : Nat → Bool) : ∀ l : List Nat, (l.filter p).length + (l.filter fun i => !p i).length = l.length
  | [] => rfl
  | a :: l => by
    have ih := filt_add p l
    cases h : p a
    · rw [List.filter_cons_of_neg (by simp [h]), List.filter_cons_of_pos (by simp [h])]
      simp only [List.length_cons]
      omega
    · rw [List.filter_cons_of_pos h, List.filter_cons_of_neg (by simp [h])]
      simp only [List.length_cons]
      omega
/-- Enough is left: no more are missing than the list is long. -/
theorem miss_count (rs : List (List UInt8)) (gone : List Int) (n : Nat) (hne : ∀ i, i < n → 0 < (rs.getD i []).length) : n ≤ (thereL (missL rs gone n) n).length + gone.length := by
  have h1 : ((List.range n).filter fun i => decide (((i : Nat) : Int) ∈ gone)).length ≤ gone.length := by
    have hsub : (((List.range n).filter fun i => decide (((i : Nat) : Int) ∈ gone)).map fun i => ((i : Nat) : Int)) ⊆ gone := fun z hz => by
      obtain ⟨i, hi, rfl⟩ := List.mem_map.1 hz
      exact of_decide_eq_true (List.mem_filter.1 hi).2
    have hnd : (((List.range n).filter fun i => decide (((i : Nat) : Int) ∈ gone)).map fun i => ((i : Nat) : Int)).Nodup := by
      refine List.pairwise_map.2 ?_
      refine ((List.nodup_range (n := n)).filter _).imp fun hab e => hab (by omega)
    have := hnd.length_le_of_subset hsub
    rwa [List.length_map] at this
  have h2 : thereL (missL rs gone n) n = (List.range n).filter fun i => !decide (((i : Nat) : Int) ∈ gone) := by
    unfold thereL
    apply List.filter_congr
    intro i hi
    have hin := List.mem_range.1 hi
    rw [missL_getD _ _ _ _ hin]
    by_cases hm : ((i : Nat) : Int) ∈ gone
    · simp [hm]
    · rw [if_neg hm, decide_eq_true (hne i hin), decide_eq_false hm]
      rfl
  rw [h2]
  have h3 := filt_add (fun i => decide (((i : Nat) : Int) ∈ gone)) (List.range n)
  rw [List.length_range] at h3
  omega
end Go.Proofs.YtgoomiimlfdcmaaGreat

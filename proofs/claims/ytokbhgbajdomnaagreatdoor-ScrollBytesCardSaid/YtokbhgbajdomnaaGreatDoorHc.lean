/-
  Contracts of the document's answers of layer 5: May, Factor, Row, Even, and of the statements' own Few. No condition but bounds. And what goes with it below the laws of layer 13. No condition but what each theorem says.
-/
import Derived.Test.YtokbhgbajdomnaaGreatDoorHa
import Derived.BigQuiet
import Derived.Test.YtokbhgbajdomnaaGreatDoorHb
import Derived.StillTailTactics
import Derived.Test.YtokbhgbajdomnaaGreatDoorGd
set_option linter.unusedVariables false
set_option maxRecDepth 20000
set_option maxHeartbeats 800000
namespace Go.Proofs.YtokbhgbajdomnaaGreatDoor
section
open Go.RowKit Go.Proofs
theorem rmay_any (k m : Int) (hk : -9223372036854775808 ≤ k ∧ k < 9223372036854775808) (hm : -9223372036854775808 ≤ m ∧ m < 9223372036854775808) (w : World) :
  Calls Tryz.prog 38 #[.int .i64 k, .int .i64 m] w fun e w' => e = .returned (.bool (mayB k m)) ∧ w' = w := by
 obtain ⟨hk1, hk2⟩ := hk
 obtain ⟨hm1, hm2⟩ := hm
 by_cases h1 : 1 ≤ k
 ·by_cases h2 : 1 ≤ m
  ·by_cases h4 : k ≤ 255
   ·by_cases h3 : m ≤ 255 - k
    ·rw [mayB_t (by omega)]
     go_enter Tryz.func38, Tryz.ntmps38
     go_wp2_with fail
     go_ret
     exact ⟨rfl, rfl⟩
    ·rw [mayB_f (by omega)]
     go_enter Tryz.func38, Tryz.ntmps38
     go_wp2_with fail
     go_ret
     exact ⟨rfl, rfl⟩
   ·rw [mayB_f (by omega)]
    go_enter Tryz.func38, Tryz.ntmps38
    go_wp2_with fail
    go_ret
    exact ⟨rfl, rfl⟩
  ·rw [mayB_f (by omega)]
   go_enter Tryz.func38, Tryz.ntmps38
   go_wp2_with fail
   go_ret
   exact ⟨rfl, rfl⟩
 ·rw [mayB_f (by omega)]
  go_enter Tryz.func38, Tryz.ntmps38
  go_wp2_with fail
  go_ret
  exact ⟨rfl, rfl⟩
end
section
open Go.RowKit Go.Proofs
theorem shard_at (k : Nat) (rs : List (List UInt8)) (i p : Nat) (hp : p < (rs.getD 0 []).length) : (shard k rs i)[p]? = some (xs k fun j => gm (facB k i j) ((rs.getD j []).getD p 0)) := by
 rw [shard, sumR, rowL_get _ _ _ hp]
 congr 1
 exact xs_congr k fun j hj => by rw [rowC_getD k i j hj]
theorem shard_length (k : Nat) (rs : List (List UInt8)) (i : Nat) : (shard k rs i).length = (rs.getD 0 []).length := sumR_length _ _ _ _
def allL (k : Nat) (rs : List (List UInt8)) (j : Nat) : List (List UInt8) := (List.range j).map (shard k rs)
theorem shard_data (k : Nat) (rs : List (List UInt8)) (i : Nat) (hi : i < k) (hl : rs.length = k) (hlv : levelB rs = true) : shard k rs i = rs.getD i [] := by
 apply List.ext_getElem?
 intro p
 rcases Nat.lt_or_ge p (rs.getD 0 []).length with hp | hp
 ·rw [shard_at k rs i p hp, xs_one i k hi (fun j hj hne => by rw [facB, if_pos hi, if_neg (fun e => hne e.symm), zero_gm]), facB, if_pos hi, if_pos rfl, one_gm]
  rw [List.getD_eq_getElem?_getD (l := rs.getD i []), List.getElem?_eq_getElem (by rw [levelB_at hlv (by omega)]; exact hp), Option.getD_some]
 ·rw [List.getElem?_eq_none (by rw [shard_length]; exact hp), List.getElem?_eq_none (by rw [levelB_at hlv (by omega)]; exact hp)]
theorem allL_eq (k m : Nat) (rs : List (List UInt8)) (hl : rs.length = k) (hlv : levelB rs = true) : allL k rs (k + m) = rs ++ parL k rs m := by
 apply List.ext_getElem?
 intro i
 rcases Nat.lt_or_ge i k with hi | hi
 ·rw [List.getElem?_append_left (by omega)]
  rw [allL, List.getElem?_map, List.getElem?_range (by omega), Option.map_some, shard_data k rs i hi hl hlv]
  simp [show i < rs.length from by omega]
 ·rw [List.getElem?_append_right (by omega), hl, allL, parL, List.getElem?_map, List.getElem?_map]
  rcases Nat.lt_or_ge i (k + m) with h2 | h2
  ·rw [List.getElem?_range (by omega), List.getElem?_range (by omega), Option.map_some, Option.map_some, show k + (i - k) = i from by omega]
  ·rw [List.getElem?_eq_none (by simpa using h2), List.getElem?_eq_none (by simp; omega), Option.map_none, Option.map_none]
end
section
open Go.RowKit Go.Proofs
end
section
open Go.RowKit Go.Proofs
end
section
open Go.RowKit Go.Proofs
end
section
open Go.RowKit Go.Proofs
instance okJ_dec (rs : List (List UInt8)) (k S : Int) : Decidable (okJ rs k S) := by unfold okJ; infer_instance
end
section
open Go.RowKit Go.Proofs
theorem flat_cut (l : List UInt8) (V : Nat) : ∀ j, (cutL l V j).flatten = rowL (j * V) fun p => l.getD p 0
 | 0 => by simp [cutL, rowL]
 | j + 1 => by
  rw [← cutL_next, List.flatten_append, flat_cut l V j, show [cutR l V j].flatten = cutR l V j by simp, cutR, rowL_append, Nat.add_mul, Nat.one_mul]
  apply rowL_congr
  intro p hp
  by_cases h : p < j * V
  ·rw [if_pos h]
  ·rw [if_neg h, show j * V + (p - j * V) = p by omega]
theorem cut_back (l : List UInt8) (V k : Nat) (h : l.length ≤ k * V) : (cutL l V k).flatten.take l.length = l := by
 rw [flat_cut]
 apply List.ext_getElem?
 intro p
 rw [List.getElem?_take]
 split
 ·rename_i hp
  rw [rowL_get _ _ _ (by omega)]
  simp [hp]
 ·rename_i hp
  rw [List.getElem?_eq_none (by omega)]
theorem cut_len (l : List UInt8) (V k : Nat) : (cutL l V k).flatten.length = k * V := by rw [flat_cut, rowL_length]
theorem cut_getD (l : List UInt8) (V k j : Nat) (h : j < k) : (cutL l V k).getD j [] = cutR l V j := by simp [cutL, h]
theorem cut_even (l : List UInt8) (V k : Nat) : evenB (cutL l V k) (k : Int) = true := by
 rw [evenB, cutL_length, decide_eq_true rfl, Bool.true_and]
 refine decide_eq_true fun j hj => ?_
 rw [cutL_length] at hj
 rw [cut_getD l V k j hj, cut_getD l V k 0 (by omega), cutR_length, cutR_length]
theorem cut_rows (l : List UInt8) (V k : Nat) : ∀ r ∈ cutL l V k, r.length = V := by
 intro r hr
 obtain ⟨j, _, rfl⟩ := List.mem_map.1 hr
 exact cutR_length _ _ _
end
section
open Go.RowKit Go.Proofs
end
end Go.Proofs.YtokbhgbajdomnaaGreatDoor

/-
  Contracts of package bitmap's New, Set and Copy. No condition but bounds.
-/
import Derived.Test.YthkflghekgbgcaaDoorEbc
import Derived.Deep.RegionHeld
import Derived.RegionTactic
namespace Go.Proofs.YthkflghekgbgcaaDoor
open Go.RowKit Go.Proofs
set_option linter.unusedVariables false

theorem wcells_one (l : List Nat) : ∀ u ∈ wcells l, u.oneCell' = true := by
  intro u hu
  obtain ⟨_, _, rfl⟩ := List.mem_map.1 hu
  rfl
theorem info_w : (Tryd.prog.info? 51).map (fun i => (i.zero, i.size, i.bytes)) = some (some (.int .u64 0), 1, 8) := by kernel_rfl
/-- A Map that New made, at block M, its words at block B. -/
structure Bp (w : World) (M B n : Nat) (f : Nat → Bool) : Prop where
  made : w.cell? ⟨M, 0, none⟩ = some (.bool true)
  num : w.cell? ⟨M, 1, none⟩ = some (.int .i64 (n : Int))
  ex : ∃ (q c : Nat) (ws : List Nat), w.cell? ⟨M, 2, none⟩ = some (.slice (some ⟨B, 0, none⟩) q c) ∧ Rw w B 51 1 q c (wcells ws) ∧ Wds n f ws ∧ q ≤ 1025
  top : n ≤ 65536
  ne : M ≠ B
section
variable {w w' : World} {M B n : Nat} {f : Nat → Bool}
theorem Bp.mp (h : Bp w M B n f) : Mp w (.pointer (some ⟨M, 0, none⟩)) n f := by
  obtain ⟨q, c, ws, h1, h2, h3, h4⟩ := h.ex
  exact ⟨h.top, .inr ⟨M, _, q, c, ws, rfl, h.num, h1, h2.sl, h3⟩⟩
theorem Bp.fr {S : Nat → Prop} (h : Bp w M B n f) (hf : Fr S w w') (hM : ¬ S M) (hB : ¬ S B) : Bp w' M B n f := by
  obtain ⟨q, c, ws, h1, h2, h3, h4⟩ := h.ex
  exact ⟨hf.cell_some h.made hM, hf.cell_some h.num hM, ⟨q, c, ws, hf.cell_some h1 hM, h2.fr hf hB, h3, h4⟩, h.top, h.ne⟩
theorem Bp.later (h : Bp w M B n f) (hb : Below w.heap.size w w') : Bp w' M B n f := h.fr (Fr.of_below hb : Fr (fun _ => False) w w') (fun h => h) (fun h => h)
theorem Bp.ltM (h : Bp w M B n f) : M < w.heap.size := World.block_lt_of_cell? w _ h.made
theorem Bp.ltB (h : Bp w M B n f) : B < w.heap.size := by
  obtain ⟨q, c, ws, h1, h2, h3, h4⟩ := h.ex
  exact h2.lt
end
/-- make([]uint64, z). -/
theorem makew_eq (z : Int) (k : Nat) (hz : z = (k : Int)) (hk : k ≤ 1048576) (w : World) :
    (Instr.makeSlice 46 (.int .i64 z) (.int .i64 z)).run Tryd.prog w = .ok (.slice (some ⟨w.heap.size, 0, none⟩) k k) (w.alloc (.cells (madeCells #[.int .u64 0] k) 51)) := by
  obtain ⟨i0, hi, hz0, hz1, hz2⟩ := info_parts info_w
  subst hz
  have h := run_make (P := Tryd.prog) w 46 51 i0 (.int .u64 0) Tryd.underlying46 hi hz0 .i64 .i64 (k : Int) (k : Int) (by omega) (by omega) (by rw [hz2]; omega) (by omega)
  rw [hz1, Nat.mul_one, Int.toNat_natCast] at h
  exact h
theorem Rw.noughtsW (w : World) (k : Nat) (hk : k ≤ 1048576) : Rw (w.alloc (.cells (madeCells #[.int .u64 0] k) 51)) w.heap.size 51 1 k k (wcells (List.replicate k 0)) := by
  have h := Rw.new w (madeCells #[.int .u64 0] k) 51 1 k (by rw [size_madeCells, Nat.mul_one]) (by unfold maxLen; omega)
  rw [toList_madeCells_one] at h
  rwa [wcells, List.map_replicate]
theorem noughts_bit (k i : Nat) : bitW (List.replicate k 0) i = false := by
  rw [bitW]
  have : (List.replicate k 0).getD (i / 64) 0 = 0 := by
    rw [List.getD_eq_getElem?_getD, List.getElem?_replicate]
    split <;> rfl
  rw [this, Nat.zero_testBit]
theorem noughts_lt (k j : Nat) : (List.replicate k 0).getD j 0 < 18446744073709551616 := by
  have : (List.replicate k 0).getD j 0 = 0 := by
    rw [List.getD_eq_getElem?_getD, List.getElem?_replicate]
    split <;> rfl
  rw [this]; omega

/-- What New answers. -/
def RetBp (n : Nat) (f : Nat → Bool) (w : World) (e : Ending) (w' : World) : Prop := ∃ M B, e = .returned (.pointer (some ⟨M, 0, none⟩)) ∧ Bp w' M B n f ∧ Below w.heap.size w w' ∧ w.heap.size ≤ M ∧ w.heap.size ≤ B
set_option maxRecDepth 20000 in
set_option maxHeartbeats 800000 in
theorem new_yes (n : Nat) (hn : n ≤ 65536) (w : World) :
    Calls Tryd.prog 8 #[.int .i64 (n : Int)] w (RetBp n (fun _ => false) w) := by
  have hn1 : ¬ (65536 : Int) < (n : Int) := by omega
  obtain ⟨k, hk⟩ : ∃ k, k = (n + 63) / 64 := ⟨_, rfl⟩
  have hmk := makew_eq (((n : Int) + 64 - 1) / 64) k (by rw [hk]; omega) (by omega)
  have hkl : k ≤ 1025 := by omega
  have hkn : n ≤ k * 64 := by omega
  clear hk
  go_enter Tryd.func8, Tryd.ntmps8
  go_wp2_with fail
  go_ret
  have hb0 : Below w.heap.size w (w.alloc (.cells (madeCells #[.int .u64 0] k) 51)) := (Below.refl _ _).alloc (Nat.le_refl _) _
  have hs0 : (w.alloc (.cells (madeCells #[.int .u64 0] k) 51)).heap.size = w.heap.size + 1 := by simp
  obtain ⟨w1, hw1⟩ : ∃ x, x = w.alloc (.cells (madeCells #[.int .u64 0] k) 51) := ⟨_, rfl⟩
  have hr := Rw.noughtsW w k (by omega)
  rw [← hw1] at hb0 hs0 hr ⊢
  have hx := heap_alloc_new w1 (.cells #[.bool true, .int .i64 (n : Int), .slice (some ⟨w.heap.size, 0, none⟩) k k] 48)
  rw [hs0] at hx
  have hb1 : Below w1.heap.size w1 (w1.alloc (.cells #[.bool true, .int .i64 (n : Int), .slice (some ⟨w.heap.size, 0, none⟩) k k] 48)) := (Below.refl _ _).alloc (Nat.le_refl _) _
  refine ⟨w.heap.size + 1, w.heap.size, rfl, ⟨by rw [cell_of_row _ _ _ _ _ _ hx]; rfl, by rw [cell_of_row _ _ _ _ _ _ hx]; rfl, ⟨k, k, List.replicate k 0, by rw [cell_of_row _ _ _ _ _ _ hx]; rfl, hr.later hb1, ⟨by rw [List.length_replicate]; exact hkn, noughts_lt k, fun i _ => noughts_bit k i⟩, hkl⟩, hn, by omega⟩, hb0.trans (hb1.mono (by omega)), by omega, Nat.le_refl _⟩
set_option maxRecDepth 20000 in
theorem new_no (z : Int) (h : ¬ (0 ≤ z ∧ z ≤ 65536)) (w : World) :
    Calls Tryd.prog 8 #[.int .i64 z] w fun e w' => e = .returned (.pointer none) ∧ w' = w := by
  by_cases h0 : z < 0
  · go_enter Tryd.func8, Tryd.ntmps8
    go_wp2_with fail
    go_ret
    exact ⟨rfl, rfl⟩
  · have h1 : 65536 < z := by omega
    clear h
    go_enter Tryd.func8, Tryd.ntmps8
    go_wp2_with fail
    go_ret
    exact ⟨rfl, rfl⟩

theorem shl_one {s : Nat} (hs : s < 64) : IntKind.u64.wrap (2 ^ s) = ((2 ^ s : Nat) : Int) := by
  have h : (2 : Nat) ^ s < 18446744073709551616 := Nat.lt_of_lt_of_le (Nat.pow_lt_pow_right (by omega) hs) (by decide)
  have e : (2 : Int) ^ s = ((2 ^ s : Nat) : Int) := by simp
  rw [e]
  obtain ⟨p, hp⟩ : ∃ p, p = 2 ^ s := ⟨_, rfl⟩
  rw [← hp] at h ⊢
  rw [IntKind.wrap_u64]
  omega
theorem xor_w {x y : Nat} (hx : x < 18446744073709551616) (hy : y < 18446744073709551616) : bits .xor .u64 (x : Int) (y : Int) = ((x ^^^ y : Nat) : Int) := by
  have h1 : (BitVec.ofInt 64 (x : Int)).toNat = x := by rw [BitVec.ofInt_natCast, BitVec.toNat_ofNat]; exact Nat.mod_eq_of_lt (by omega)
  have h2 : (BitVec.ofInt 64 (y : Int)).toNat = y := by rw [BitVec.ofInt_natCast, BitVec.toNat_ofNat]; exact Nat.mod_eq_of_lt (by omega)
  have h3 : x ^^^ y < 2 ^ 64 := Nat.xor_lt_two_pow (by omega) (by omega)
  show IntKind.u64.wrap ((BitVec.ofInt 64 (x : Int) ^^^ BitVec.ofInt 64 (y : Int)).toNat : Int) = _
  rw [BitVec.toNat_xor, h1, h2, IntKind.wrap_u64]
  omega
/-- A word is turned at one place. -/
theorem Rw.turnW {w : World} {B q c u : Nat} {ws : List Nat} (h : Rw w B 51 1 q c (wcells ws)) (hu : u < q) (y : Nat) : Rw (w.setCell ⟨B, u, none⟩ (.int .u64 (y : Int))) B 51 1 q c (wcells (ws.set u y)) := by
  have := h.store (o := u) (vs := [.int .u64 (y : Int)]) (by simp; omega) (by intro v hv; rw [List.mem_singleton.1 hv]; rfl)
  have e : (wcells ws).take u ++ [Value.int .u64 (y : Int)] ++ (wcells ws).drop (u + 1) = wcells (ws.set u y) := by
    rw [wcells, wcells, List.map_set, List.set_eq_take_append_cons_drop, if_pos (by rw [List.length_map]; have := h.len; rw [wcells_length] at this; omega)]
    simp
  rw [← e]
  exact this
set_option maxRecDepth 20000 in
set_option maxHeartbeats 1600000 in
theorem set_turn (M B n i : Nat) (f : Nat → Bool) (on : Bool) (w : World) (h : Bp w M B n f) (hi : i < n) (hne : (f i == on) = false) :
    Calls Tryd.prog 24 #[.pointer (some ⟨M, 0, none⟩), .int .i64 (i : Int), .bool on] w fun e w' => e = .returned (.bool true) ∧ Bp w' M B n (putB f i on) ∧ Fr (fun b => b = B) w w' := by
  have htop := h.top
  have HWI := Lib.hid (show IntKind.i64.wrap ((i : Int) / 64) = (i : Int) / 64 by rw [IntKind.wrap_i64]; omega)
  have HWM := Lib.hid (show IntKind.i64.wrap ((i : Int) % 64) = (i : Int) % 64 by rw [IntKind.wrap_i64]; omega)
  have hw := mwithin_any _ n f (i : Int) w h.mp
  have hh := has_any _ n f (i : Int) w h.mp
  rw [show inB n (i : Int) = true by simp [inB]; omega] at hw hh
  rw [Bool.true_and, Int.toNat_natCast] at hh
  obtain ⟨q, c, ws, h1, h2, h3, h4⟩ := h.ex
  have hq : ws.length = q := by have := h2.len; rw [wcells_length] at this; omega
  have hkq : i / 64 < q := by have := h3.room; omega
  obtain ⟨x, hxe⟩ : ∃ x, x = ws.getD (i / 64) 0 := ⟨_, rfl⟩
  have hx := h3.lt (i / 64)
  have hcell := h2.cell (wcells_get ws (i / 64) (by omega))
  rw [← hxe] at hcell hx
  have hfz := h2.free (i / 64)
  have hki : (i : Int) / 64 < (q : Int) := by omega
  have hk0 : 0 ≤ (i : Int) / 64 := by omega
  have hkn : ((i : Int) / 64).toNat = i / 64 := by omega
  have hkm : 0 ≤ (i : Int) % 64 := by omega
  have hkr : min ((i : Int) % 64).toNat 64 = i % 64 := by omega
  have hsl := shl_one (s := i % 64) (by omega)
  have hp : 2 ^ (i % 64) < 18446744073709551616 := Nat.lt_of_lt_of_le (Nat.pow_lt_pow_right (by omega) (show i % 64 < 64 by omega)) (by decide)
  obtain ⟨p2, hp2⟩ : ∃ p2, p2 = 2 ^ (i % 64) := ⟨_, rfl⟩
  rw [← hp2] at hsl hp
  have hxw := xor_w hx hp
  obtain ⟨y, hy⟩ : ∃ y, y = x ^^^ p2 := ⟨_, rfl⟩
  rw [← hy] at hxw
  have hbt := bitW_turn (ws := ws) (i := i) (x := x) (by omega) hxe.symm
  rw [← hp2, ← hy] at hbt
  have hyl : y < 18446744073709551616 := by rw [hy]; exact Nat.lt_of_lt_of_le (Nat.xor_lt_two_pow (n := 64) (by omega) (by omega)) (by decide)
  have hwd : Wds n (putB f i on) (ws.set (i / 64) y) := by
    refine ⟨by rw [List.length_set]; exact h3.room, fun j => ?_, fun j hj => ?_⟩
    · by_cases e : i / 64 = j
      · subst e
        rw [List.getD_eq_getElem?_getD, List.getElem?_set_self (by omega)]
        exact hyl
      · rw [List.getD_eq_getElem?_getD, List.getElem?_set_ne e, ← List.getD_eq_getElem?_getD]
        exact h3.lt j
    · rw [hbt j, putB]
      by_cases e : j = i
      · rw [if_pos e, if_pos e, h3.bit i hi]
        revert hne
        cases f i <;> cases on <;> simp
      · rw [if_neg e, if_neg e, h3.bit j hj]
  have Hw := Lib.hid hwd
  have HU := Lib.hid (show i / 64 < q from hkq)
  have HQ := Lib.hid h4
  have H2 := Lib.hid h2
  have HB := Lib.hid h
  have H1 := Lib.hid h1
  clear hwd h2 h hbt hp2 hy hyl h3 h4 hq hkq hxe
  obtain ⟨z, hz⟩ : ∃ z, z = f i := ⟨_, rfl⟩
  rw [← hz] at hh hne
  clear hz
  go_enter Tryd.func24, Tryd.ntmps24
  go_wp2_with fail
  refine hw.mono ?_; clear hw; rintro e w1 ⟨rfl, hw1⟩
  obtain rfl : w = w1 := hw1.symm
  go_wp2_with fail
  refine hh.mono ?_; clear hh; rintro e w2 ⟨rfl, hw2⟩
  obtain rfl : w = w2 := hw2.symm
  go_wp2_with fail
  have hwi := HWI.out
  have hwm := HWM.out
  go_region
  obtain ⟨w3, hw3⟩ : ∃ x, x = w.setCell ⟨B, i / 64, none⟩ (.int .u64 (y : Int)) := ⟨_, rfl⟩
  have hf3 : Fr (fun b => b = B) w w3 := by rw [hw3]; exact (Fr.refl (fun b => b = B) w).setCell (p := ⟨B, i / 64, none⟩) (.inr rfl) _
  have hr3 : Rw w3 B 51 1 q c (wcells (ws.set (i / 64) y)) := by rw [hw3]; exact H2.out.turnW HU.out y
  rw [← hw3]
  have Hf3 := Lib.hid hf3
  have Hr3 := Lib.hid hr3
  clear hf3 hr3 hw3 hwi hwm
  go_wp2_with fail
  go_ret
  have hfd : Fr (fun b => b = B) w w3.drew := Hf3.out.drew
  have hb := HB.out
  exact ⟨rfl, ⟨hfd.cell_some hb.made hb.ne, hfd.cell_some hb.num hb.ne, ⟨q, c, _, hfd.cell_some H1.out hb.ne, Hr3.out.fr (Fr.drew (Fr.refl (fun _ => False) w3)) (fun h => h), Hw.out, by have := HQ.out; omega⟩, hb.top, hb.ne⟩, hfd⟩

/-- Of no place, or one that is so already: false, and nothing turns. -/
theorem set_stays (v : Value) (n : Nat) (f : Nat → Bool) (i : Int) (on : Bool) (w : World) (h : Mp w v n f) (hno : (inB n i && (f i.toNat != on)) = false) :
    Calls Tryd.prog 24 #[v, .int .i64 i, .bool on] w fun e w' => e = .returned (.bool false) ∧ w' = w := by
  have hw := mwithin_any v n f i w h
  have hh := has_any v n f i w h
  by_cases hi : inB n i = true
  · rw [hi] at hw hh hno
    rw [Bool.true_and] at hh hno
    obtain ⟨z, hz⟩ : ∃ z, z = f i.toNat := ⟨_, rfl⟩
    rw [← hz] at hh hno
    have hzo : z = on := by
      revert hno
      cases z <;> cases on <;> simp
    subst hzo
    clear hno hi h hz
    go_enter Tryd.func24, Tryd.ntmps24
    go_wp2_with fail
    refine hw.mono ?_; clear hw; rintro e w1 ⟨rfl, hw1⟩
    obtain rfl : w = w1 := hw1.symm
    go_wp2_with fail
    refine hh.mono ?_; clear hh; rintro e w2 ⟨rfl, hw2⟩
    obtain rfl : w = w2 := hw2.symm
    go_wp2_with fail
    go_ret
    exact ⟨rfl, rfl⟩
  · have hi2 : inB n i = false := by simpa using hi
    rw [hi2] at hw
    clear hno hi hh h
    go_enter Tryd.func24, Tryd.ntmps24
    go_wp2_with fail
    refine hw.mono ?_; clear hw; rintro e w1 ⟨rfl, hw1⟩
    obtain rfl : w = w1 := hw1.symm
    go_wp2_with fail
    go_ret
    exact ⟨rfl, rfl⟩
/-- Is something turned by Set? What is taken behind it. -/
def setB (n : Nat) (f : Nat → Bool) (i : Int) (on : Bool) : Bool := inB n i && (f i.toNat != on)
def setF (n : Nat) (f : Nat → Bool) (i : Int) (on : Bool) : Nat → Bool := if inB n i then putB f i.toNat on else f
theorem setF_same {n : Nat} {f : Nat → Bool} {i : Int} {on : Bool} (h : setB n f i on = false) : setF n f i on = f := by
  unfold setB at h
  unfold setF
  by_cases hi : inB n i = true
  · rw [if_pos hi]
    rw [hi, Bool.true_and] at h
    funext j
    rw [putB]
    by_cases e : j = i.toNat
    · rw [if_pos e, e]
      revert h
      cases f i.toNat <;> cases on <;> simp
    · rw [if_neg e]
  · rw [if_neg hi]
theorem set_any (M B n : Nat) (i : Int) (f : Nat → Bool) (on : Bool) (w : World) (h : Bp w M B n f) :
    Calls Tryd.prog 24 #[.pointer (some ⟨M, 0, none⟩), .int .i64 i, .bool on] w fun e w' => e = .returned (.bool (setB n f i on)) ∧ Bp w' M B n (setF n f i on) ∧ Fr (fun b => b = B) w w' := by
  by_cases hs : setB n f i on = true
  · have hin : inB n i = true := by unfold setB at hs; revert hs; cases inB n i <;> simp
    have hne : (f i.toNat == on) = false := by unfold setB at hs; rw [hin] at hs; revert hs; cases f i.toNat <;> cases on <;> simp
    have hi : 0 ≤ i ∧ i < (n : Int) := by simpa [inB] using hin
    have := set_turn M B n i.toNat f on w h (by omega) hne
    rw [show ((i.toNat : Nat) : Int) = i by omega] at this
    rw [hs, setF, if_pos hin]
    exact this
  · have hs2 : setB n f i on = false := by simpa using hs
    rw [hs2, setF_same hs2]
    refine (set_stays _ n f i on w h.mp hs2).mono ?_
    rintro e w' ⟨rfl, rfl⟩
    exact ⟨rfl, h, Fr.refl _ _⟩

/-- What a clone of words answers. -/
def RetW12 (q : Nat) (ws : List Nat) (w : World) (e : Ending) (w' : World) : Prop := ∃ b c, e = .returned (.slice (some ⟨b, 0, none⟩) q c) ∧ Rw w' b 51 1 q c (wcells ws) ∧ Below w.heap.size w w' ∧ w.heap.size ≤ b
set_option maxRecDepth 20000 in
set_option maxHeartbeats 800000 in
theorem cloneW12 {b q c : Nat} {ws : List Nat} {w : World} (h : Rw w b 51 1 q c (wcells ws)) (h2 : q ≤ 100000) :
    Calls Tryd.prog 25 #[.slice (some ⟨b, 0, none⟩) q c] w (RetW12 q ws w) := by
  have hq : (binOp .eql 46 (.slice (some ⟨b, 0, none⟩) q c) (.slice none 0 0)).run Tryd.prog w = .ok (.bool false) w := Lib.run_eql_slice_nil w _ _ (some ⟨b, 0, none⟩) q c 0 0 Tryd.underlying46
  have HR := Lib.hid h
  obtain ⟨i0, hi, hz0, hz1, hz2⟩ := info_parts info_w
  have Hi := Lib.hid hi
  have Hz0 := Lib.hid hz0
  have Hz1 := Lib.hid hz1
  have Hz2 := Lib.hid hz2
  clear h hi hz0 hz1 hz2
  by_cases hn : q = 0
  · subst hn
    have hx0 : ws = [] := List.eq_nil_of_length_eq_zero (by have := HR.out.len; rw [wcells_length] at this; omega)
    subst hx0
    go_enter Tryd.func25, Tryd.ntmps25
    go_wp2_with (at_builtin; refine wpList_append_no (T := 51) (size := 1) (n := 0) (c := 0) rfl (.tmp 5) (.tmp 6) 46 46 rfl i0 Tryd.underlying46 Hi.out Hz1.out rfl (Nat.le_refl _) (.slice (some ⟨b, 0, none⟩) 0 c) rfl ((HR.out.later ((Below.refl _ _).alloc (Nat.le_refl _) _)).sl.src Tryd.underlying46 (by decide) (fun u hu => by cases hu)) ?pd)
    go_wp2_with fail
    go_ret
    exact ⟨w.heap.size, 0, rfl, Rw.new w #[] _ 1 0 rfl (by decide), (Below.refl _ _).alloc (Nat.le_refl _) _, Nat.le_refl _⟩
  · go_enter Tryd.func25, Tryd.ntmps25
    go_wp2_with (at_builtin; refine wpList_append_rw (T := 51) (size := 1) (n := 0) (c := 0) (xs := []) rfl (.tmp 5) (.tmp 6) 46 46 rfl i0 (.int .u64 0) 8 Tryd.underlying46 Hi.out Hz0.out Hz1.out Hz2.out rfl (by decide) rfl (.inr ⟨w.heap.size, rfl, Rw.new w #[] _ 1 0 rfl (by decide)⟩) (.slice (some ⟨b, 0, none⟩) q c) q (wcells ws) rfl ((HR.out.later ((Below.refl _ _).alloc (Nat.le_refl _) _)).sl.src Tryd.underlying46 (by decide) (wcells_one ws)) (by omega) ?qb ?qc ?qd)
    case qb => unfold maxLen; omega
    case qc => omega
    intro b2 c2 w2 hr2 hf2 ho2
    have HB := Lib.hid (show Below w.heap.size w w2 from ((Below.refl _ _).alloc (Nat.le_refl _) _).trans (hf2.below (by simp) (fun k hk => by
      obtain ⟨o, hk⟩ := hk
      injection hk with hk
      injection hk with hk _
      omega)))
    have HR2 := Lib.hid hr2
    have HG := Lib.hid (show w.heap.size ≤ b2 from by
      have hsz : w.heap.size ≤ (w.alloc (.cells #[] 51)).heap.size := by simp
      omega)
    clear hr2 hf2 ho2
    go_wp2_with fail
    go_ret
    exact ⟨b2, c2, by first | rfl | simp, HR2.out, HB.out, HG.out⟩
set_option maxRecDepth 20000 in
set_option maxHeartbeats 800000 in
theorem copy_any (M B n : Nat) (f : Nat → Bool) (w : World) (h : Bp w M B n f) :
    Calls Tryd.prog 10 #[.pointer (some ⟨M, 0, none⟩)] w (RetBp n f w) := by
  obtain ⟨q, c, ws, h1, h2, h3, h4⟩ := h.ex
  have hm := h.made
  have hn := h.num
  have HB := Lib.hid h
  have H2 := Lib.hid h2
  have H3 := Lib.hid h3
  have H4 := Lib.hid h4
  have HM := Lib.hid hn
  have HR := Lib.hid h1
  clear h h2 h3 h4
  go_enter Tryd.func10, Tryd.ntmps10
  go_wp2_with fail
  clear hm hn h1
  refine wp_region_held_drew (S := fun w' => Fr (fun _ => False) w.drew w') (by kernel_rfl) (Fr.refl _ _) (fun hHeld => ?_)
  clear hHeld
  refine wpAnyH_take (i := 0) (oi := ⟨some 12, _, _, _, _, _⟩) (v := ?vs0) rfl (by kernel_rfl) (by kernel_rfl) (by kernel_rfl) (fun _ _ _ h => h) (Or.inl ⟨by rfl, ?ys0⟩) (Fr.refl _ _) ?rs0
  case ys0 =>
    intro wq hSw
    (try dsimp only at hSw)
    first | (go_simp; done) | (go_simp; with_reducible rfl)
  try simp only [Act.put, List.setIfInBounds_toArray, List.set_cons_zero, List.set_cons_succ]
  refine wpAnyH_take (i := 1) (oi := ⟨some 13, _, _, _, _, _⟩) (v := ?vs1) rfl (by kernel_rfl) (by kernel_rfl) (by kernel_rfl) (fun _ _ _ h => h) (Or.inl ⟨by rfl, ?ys1⟩) (Fr.refl _ _) ?rs1
  case ys1 =>
    intro wq hSw
    (try dsimp only at hSw)
    first | (go_simp; done) | (go_simp; with_reducible rfl)
  try simp only [Act.put, List.setIfInBounds_toArray, List.set_cons_zero, List.set_cons_succ]
  refine wpAnyH_take (i := 2) (oi := ⟨some 14, _, _, _, _, _⟩) (v := ?vs2) rfl (by kernel_rfl) (by kernel_rfl) (by kernel_rfl) (fun _ _ _ h => h) (Or.inl ⟨by rfl, ?ys2⟩) (Fr.refl _ _) ?rs2
  case ys2 =>
    intro wq hSw
    (try dsimp only at hSw)
    first | (go_simp; done) | (go_simp; with_reducible rfl)
  try simp only [Act.put, List.setIfInBounds_toArray, List.set_cons_zero, List.set_cons_succ]
  refine wpAnyH_take (i := 3) (oi := ⟨some 15, _, _, _, _, _⟩) (v := ?vs3) rfl (by kernel_rfl) (by kernel_rfl) (by kernel_rfl) (fun _ _ _ h => h) (Or.inl ⟨by rfl, ?ys3⟩) (Fr.refl _ _) ?rs3
  case ys3 =>
    intro wq hSw
    (try dsimp only at hSw)
    have hq := hSw.cell_some HM.out (fun h => h)
    first | (go_simp; done) | (go_simp; with_reducible rfl)
  try simp only [Act.put, List.setIfInBounds_toArray, List.set_cons_zero, List.set_cons_succ]
  refine wpAnyH_take (i := 4) (oi := ⟨some 16, _, _, _, _, _⟩) (v := ?vs4) rfl (by kernel_rfl) (by kernel_rfl) (by kernel_rfl) (fun _ _ _ h => h) (Or.inl ⟨by rfl, ?ys4⟩) (Fr.refl _ _) ?rs4
  case ys4 =>
    intro wq hSw
    (try dsimp only at hSw)
    first | (go_simp; done) | (go_simp; with_reducible rfl)
  try simp only [Act.put, List.setIfInBounds_toArray, List.set_cons_zero, List.set_cons_succ]
  refine wpAnyH_take (i := 5) (oi := ⟨some 17, _, _, _, _, _⟩) (v := ?vs5) rfl (by kernel_rfl) (by kernel_rfl) (by kernel_rfl) (fun _ _ _ h => h) (Or.inl ⟨by rfl, ?ys5⟩) (Fr.refl _ _) ?rs5
  case ys5 =>
    intro wq hSw
    (try dsimp only at hSw)
    first | (go_simp; done) | (go_simp; with_reducible rfl)
  try simp only [Act.put, List.setIfInBounds_toArray, List.set_cons_zero, List.set_cons_succ]
  refine wpAnyH_take (i := 6) (oi := ⟨some 18, _, _, _, _, _⟩) (v := ?vs6) rfl (by kernel_rfl) (by kernel_rfl) (by kernel_rfl) (fun _ _ _ h => h) (Or.inl ⟨by rfl, ?ys6⟩) (Fr.refl _ _) ?rs6
  case ys6 =>
    intro wq hSw
    (try dsimp only at hSw)
    first | (go_simp; done) | (go_simp; with_reducible rfl)
  try simp only [Act.put, List.setIfInBounds_toArray, List.set_cons_zero, List.set_cons_succ]
  refine wpAnyH_take (i := 7) (oi := ⟨some 19, _, _, _, _, _⟩) (v := ?vs7) rfl (by kernel_rfl) (by kernel_rfl) (by kernel_rfl) (fun _ _ _ h => h) (Or.inl ⟨by rfl, ?ys7⟩) (Fr.refl _ _) ?rs7
  case ys7 =>
    intro wq hSw
    (try dsimp only at hSw)
    have hq := hSw.cell_some HR.out (fun h => h)
    first | (go_simp; done) | (go_simp; with_reducible rfl)
  try simp only [Act.put, List.setIfInBounds_toArray, List.set_cons_zero, List.set_cons_succ]
  refine wpAnyH_ready (rs := [8]) (by kernel_rfl) (by simp) ?_
  refine AllReadyH.cons (o := ⟨some 20, _, _, _, _, _⟩) rfl (fun K hK => ?_) AllReadyH.nil
  go_simp
  refine (cloneW12 (H2.out.later (Below.drew (Below.refl _ _))) (by have := H4.out; omega)).mono ?_; rintro e w2 ⟨b2, c2, rfl, hr, hb, hge⟩
  have hfr := Fr.of_below (S := fun _ => False) hb
  have R2 := Lib.hid hr
  have G2 := Lib.hid (show w.heap.size ≤ b2 from hge)
  have B2 := Lib.hid (show Below w.heap.size w w2 from (Below.drew (Below.refl _ _)).trans hb)
  have HM := Lib.hid (hfr.cell_some HM.out (fun h => h))
  clear hr hge hb
  go_wp2_with fail
  refine hK.out _ _ hfr (fun hHeld => ?_)
  clear hK K hHeld
  try simp only [Act.put, List.setIfInBounds_toArray, List.set_cons_zero, List.set_cons_succ]
  refine wpAnyH_re (S' := fun w' => Fr (fun _ => False) w2 w') (fun w' h => hfr.trans h) ?_
  clear hfr
  refine wpAnyH_take (i := 9) (oi := ⟨some 21, _, _, _, _, _⟩) (v := ?vs9) rfl (by kernel_rfl) (by kernel_rfl) (by kernel_rfl) (fun _ _ _ h => h) (Or.inl ⟨by rfl, ?ys9⟩) (Fr.refl _ _) ?rs9
  case ys9 =>
    intro wq hSw
    (try dsimp only at hSw)
    first | (go_simp; done) | (go_simp; with_reducible rfl)
  try simp only [Act.put, List.setIfInBounds_toArray, List.set_cons_zero, List.set_cons_succ]
  refine wpAnyH_ready (rs := [10]) (by kernel_rfl) (by simp) ?_
  refine AllReadyH.cons (o := ⟨some 22, _, _, _, _, _⟩) rfl (fun K hK => ?_) AllReadyH.nil
  go_simp
  have hb : Below w2.heap.size w2 (w2.alloc (.cells #[.bool true, .int .i64 (n : Int), .slice (some ⟨b2, 0, none⟩) q c2] 48)) := (Below.refl _ _).alloc (Nat.le_refl _) _
  have hx := heap_alloc_new w2 (.cells #[.bool true, .int .i64 (n : Int), .slice (some ⟨b2, 0, none⟩) q c2] 48)
  obtain ⟨w3, hw⟩ : ∃ u0, u0 = w2.alloc (.cells #[.bool true, .int .i64 (n : Int), .slice (some ⟨b2, 0, none⟩) q c2] 48) := ⟨_, rfl⟩
  rw [← hw] at hb hx ⊢
  clear hw
  have X3 := Lib.hid hx
  have R3 := Lib.hid (R2.out.later hb)
  have B3 := Lib.hid (B2.out.trans (hb.mono B2.out.size))
  have hfr : Fr (fun _ => False) w2 w3 := Fr.of_below hb
  clear hb hx
  refine hK.out _ _ hfr (fun hHeld => ?_)
  clear hK K hHeld
  try simp only [Act.put, List.setIfInBounds_toArray, List.set_cons_zero, List.set_cons_succ]
  refine wpAnyH_re (S' := fun w' => Fr (fun _ => False) w3 w') (fun w' h => hfr.trans h) ?_
  clear hfr
  refine wpAnyH_take (i := 11) (oi := ⟨some 2, _, _, _, _, _⟩) (v := ?vs11) rfl (by kernel_rfl) (by kernel_rfl) (by kernel_rfl) (fun _ _ _ h => h) (Or.inl ⟨by rfl, ?ys11⟩) (Fr.refl _ _) ?rs11
  case ys11 =>
    intro wq hSw
    (try dsimp only at hSw)
    first | (go_simp; done) | (go_simp; with_reducible rfl)
  try simp only [Act.put, List.setIfInBounds_toArray, List.set_cons_zero, List.set_cons_succ]
  refine wpAnyH_done (by kernel_rfl) ?_ _
  go_wp2_with fail
  go_ret
  exact ⟨w2.heap.size, b2, rfl, ⟨by rw [cell_of_row _ _ _ _ _ _ X3.out]; rfl, by rw [cell_of_row _ _ _ _ _ _ X3.out]; rfl, ⟨q, c2, ws, by rw [cell_of_row _ _ _ _ _ _ X3.out]; rfl, R3.out, H3.out, H4.out⟩, HB.out.top, by have := R2.out.lt; omega⟩, B3.out, B2.out.size, G2.out⟩
set_option maxRecDepth 20000 in
theorem copy_nil (w : World) : Calls Tryd.prog 10 #[.pointer none] w fun e w' => e = .returned (.pointer none) ∧ w' = w := by
  go_enter Tryd.func10, Tryd.ntmps10
  go_wp2_with fail
  go_ret
  exact ⟨rfl, rfl⟩
set_option maxRecDepth 20000 in
theorem copy_zero (M : Nat) (w : World) (h : w.cell? ⟨M, 0, none⟩ = some (.bool false)) : Calls Tryd.prog 10 #[.pointer (some ⟨M, 0, none⟩)] w fun e w' => e = .returned (.pointer none) ∧ w' = w := by
  go_enter Tryd.func10, Tryd.ntmps10
  go_wp2_with fail
  go_ret
  exact ⟨rfl, rfl⟩
end Go.Proofs.YthkflghekgbgcaaDoor

/-
  The contract of package decode's Plan. Condition: the coder is one that New made.
-/
import Derived.Test.YtgoomiimlfdcmaaGreatDlj
import Derived.Test.YtgoomiimlfdcmaaGreatDlb
namespace Go.Proofs.YtgoomiimlfdcmaaGreat
open Go.RowKit Go.Proofs
set_option linter.unusedVariables false

/-- Numbers, rising. -/
def srt (xs : List Int) : List Int := xs.mergeSort fun x y => decide (x ≤ y)
def srtN (xs : List Int) : List Nat := (srt xs).map Int.toNat
theorem srt_perm (xs : List Int) : (srt xs).Perm xs := List.mergeSort_perm _ _
theorem srt_length (xs : List Int) : (srt xs).length = xs.length := (srt_perm xs).length_eq
theorem srtN_length (xs : List Int) : (srtN xs).length = xs.length := by rw [srtN, List.length_map, srt_length]
theorem apartB_nodup {xs : List Int} {n : Nat} (h : apartB xs n = true) : xs.Nodup := (of_decide_eq_true h).1
theorem apartB_in {xs : List Int} {n : Nat} (h : apartB xs n = true) : ∀ z ∈ xs, 0 ≤ z ∧ z < (n : Int) := (of_decide_eq_true h).2
theorem srt_in {xs : List Int} {n : Nat} (h : apartB xs n = true) : ∀ z ∈ srt xs, 0 ≤ z ∧ z < (n : Int) := fun z hz => apartB_in h z ((srt_perm xs).mem_iff.1 hz)
theorem srt_cells {xs : List Int} {n : Nat} (h : apartB xs n = true) : icells (xs.mergeSort fun x y => decide (x ≤ y)) = ncells (srtN xs) := by
  show icells (srt xs) = _
  unfold icells ncells srtN
  rw [List.map_map]
  apply List.map_congr_left
  intro z hz
  have := srt_in h z hz
  show Value.int .i64 z = Value.int .i64 ((z.toNat : Nat) : Int)
  rw [Int.toNat_of_nonneg this.1]
theorem srtN_at {xs : List Int} {a : Nat} (h : a < (srtN xs).length) : (srtN xs).getD a 0 = ((srt xs)[a]'(by rwa [srtN, List.length_map] at h)).toNat := by
  have h' : a < (srt xs).length := by rwa [srtN, List.length_map] at h
  simp [srtN, h']
theorem srtN_lt {xs : List Int} {n a : Nat} (h : apartB xs n = true) (ha : a < (srtN xs).length) : (srtN xs).getD a 0 < n := by
  rw [srtN_at ha]
  have := srt_in h _ (List.getElem_mem (by rwa [srtN, List.length_map] at ha))
  omega
theorem srtN_ne {xs : List Int} {n i j : Nat} (h : apartB xs n = true) (hj : j < i) (hi : i < (srtN xs).length) : (srtN xs).getD i 0 ≠ (srtN xs).getD j 0 := by
  have hl : (srtN xs).length = (srt xs).length := by rw [srtN, List.length_map]
  rw [srtN_at hi, srtN_at (by omega)]
  have h1 := srt_in h _ (List.getElem_mem (show i < (srt xs).length by omega))
  have h2 := srt_in h _ (List.getElem_mem (show j < (srt xs).length by omega))
  have hnd : (srt xs).Nodup := (srt_perm xs).nodup_iff.2 (apartB_nodup h)
  have := List.pairwise_iff_getElem.1 hnd j i (by omega) (by omega) hj
  omega

set_option maxRecDepth 20000 in
set_option maxHeartbeats 3200000 in
theorem plan_any (C k m F T : Nat) (B : Option Addr) (q d : Nat) (xs : List Int) (want : Int) (w : World) (h : Cod w C k m F T) (hs : Sl w 1 B q d (icells xs)) (hz : ∀ z ∈ xs, -9223372036854775808 ≤ z ∧ z < 9223372036854775808) (hq : q ≤ 1048576) :
    Calls Tryz.prog 18 #[.pointer (some ⟨C, 0, none⟩), .slice B q d, .int .i64 want] w fun e w' =>
      ((¬ (apartB xs (k + m) = true ∧ 0 ≤ want ∧ want < ((k + m : Nat) : Int)) ∧ e = .returned (.tuple #[.slice none 0 0, .slice none 0 0, .int .i64 2])) ∨
        ((apartB xs (k + m) = true ∧ (0 ≤ want ∧ want < ((k + m : Nat) : Int)) ∧ q < k) ∧ e = .returned (.tuple #[.slice none 0 0, .slice none 0 0, .int .i64 60])) ∨
        (apartB xs (k + m) = true ∧ (0 ≤ want ∧ want < ((k + m : Nat) : Int)) ∧ k ≤ q ∧ ∃ (A1 : Option Addr) (c1 : Nat) (A2 : Option Addr) (c2 : Nat) (X : Mx), e = .returned (.tuple #[.slice A1 k c1, .slice A2 k c2, .int .i64 0]) ∧ Sl w' 1 A1 k c1 (ncells ((srtN xs).take k)) ∧
          Alike k k (mm k X (facM k ((srtN xs).take k))) one ∧ Sl w' 1 A2 k c2 (cells (planL k X want.toNat)))) ∧ Below w.heap.size w w' := by
  have h1 := h.k1
  have h3 := h.n255
  have hxl : xs.length = q := hs.ofIcells
  have H := Lib.hid h; clear h
  have Hs := Lib.hid hs; clear hs
  have Hz := Lib.hid hz; clear hz
  have Hxl := Lib.hid hxl; clear hxl
  by_cases ha : apartB xs (k + m) = true
  · have Ha := Lib.hid ha
    have Ha2 := Lib.hid ha
    clear ha
    by_cases hw : 0 ≤ want ∧ want < ((k + m : Nat) : Int)
    · have Hw := Lib.hid (withinB_t hw)
      obtain ⟨x, rfl⟩ : ∃ x : Nat, want = (x : Int) := ⟨want.toNat, by omega⟩
      have hx : x < k + m := by omega
      clear hw
      by_cases hqk : q < k
      · have hqki : (q : Int) < (k : Int) := by omega
        go_enter Tryz.func18, Tryz.ntmps18
        go_wp2_with fail
        refine (dmade_any C k m F T _ H.out).mono ?_; rintro e w0 ⟨rfl, rfl⟩
        go_wp2_with fail
        have hh := apart_any C k m F T B q d xs w0 H.out Hs.out Hz.out hq
        rw [Ha.out] at hh
        refine hh.mono ?_; clear hh; rintro e w1 ⟨rfl, hb1⟩
        have Hb1 := Lib.hid hb1
        have hz1 := hb1.size
        clear hb1
        go_wp2_with fail
        have hh := dhas_any C k m F T (x : Int) w1 (H.out.later Hb1.out)
        rw [Hw.out] at hh
        refine hh.mono ?_; clear hh; rintro e w2 ⟨rfl, hb2⟩
        have Hb2 := Lib.hid (Hb1.out.trans (hb2.mono hz1))
        have hz2 := Hb2.out.size
        clear hb2
        go_wp2_with fail
        refine (ck_any C k m F T _ (H.out.later Hb2.out)).mono ?_; rintro e w3 ⟨rfl, rfl⟩
        go_wp2_with fail
        go_ret3
        exact ⟨.inr (.inl ⟨⟨Ha2.out, ⟨by omega, by omega⟩, hqk⟩, rfl⟩), Hb2.out⟩
      · have hqki : ¬ ((q : Int) < (k : Int)) := by omega
        have hkq : k ≤ q := by omega
        clear hqk
        go_enter Tryz.func18, Tryz.ntmps18
        go_wp2_with fail
        refine (dmade_any C k m F T _ H.out).mono ?_; rintro e w0 ⟨rfl, rfl⟩
        go_wp2_with fail
        have hh := apart_any C k m F T B q d xs w0 H.out Hs.out Hz.out hq
        rw [Ha.out] at hh
        refine hh.mono ?_; clear hh; rintro e w1 ⟨rfl, hb1⟩
        have Hb1 := Lib.hid hb1
        have hz1 := hb1.size
        clear hb1
        go_wp2_with fail
        have hh := dhas_any C k m F T (x : Int) w1 (H.out.later Hb1.out)
        rw [Hw.out] at hh
        refine hh.mono ?_; clear hh; rintro e w2 ⟨rfl, hb2⟩
        have Hb2 := Lib.hid (Hb1.out.trans (hb2.mono hz1))
        have hz2 := Hb2.out.size
        clear hb2
        go_wp2_with fail
        refine (ck_any C k m F T _ (H.out.later Hb2.out)).mono ?_; rintro e w3 ⟨rfl, rfl⟩
        go_wp2_with fail
        refine (values_any B q d w3).mono ?_; rintro e w4 ⟨rfl, hw4⟩
        have hb4 : Below w3.heap.size w3 w4 := by rw [hw4]; exact (Below.refl _ _).alloc (Nat.le_refl _) _
        have hc4 : w4.cell? ⟨w3.heap.size, 0, none⟩ = some (.slice B q d) := by rw [hw4]; exact cell_of_one (heap_alloc_new _ _)
        have Hb4 := Lib.hid (Hb2.out.trans (hb4.mono hz2))
        have hz4 := Hb4.out.size
        have hh := sorted_any w3.heap.size B q d xs w4 hc4 (Hs.out.below Hb4.out (Nat.le_refl _)) hq
        clear hw4 hb4 hc4
        go_wp2_with fail
        refine hh.mono ?_; clear hh; rintro e w5 ⟨A5, c5, rfl, hs5, hb5⟩
        rw [srt_cells Ha2.out] at hs5
        have Hs5 := Lib.hid hs5
        have Hb5 := Lib.hid (Hb4.out.trans (hb5.mono hz4))
        have hz5 := Hb5.out.size
        have hq5 := hs5.cap
        have hq6 := hs5.top
        unfold maxLen at hq6
        clear hs5 hb5
        go_wp2_with fail
        refine (ck_any C k m F T _ (H.out.later Hb5.out)).mono ?_; rintro e w6 ⟨rfl, rfl⟩
        have hkc : k ≤ c5 := by omega
        have hkci : (k : Int) ≤ (c5 : Int) := by omega
        have hst := sl_takeN Hs5.out hkq
        have Hst := Lib.hid hst
        have hh := planner_any C k m F T A5 c5 ((srtN xs).take k) w6 (H.out.later Hb5.out) hst (fun a ha => by rw [take_getD ha]; exact srtN_lt Ha2.out (by rw [srtN_length, Hxl.out]; omega)) (fun i hi j hj => by
          rw [take_getD hi, take_getD (by omega)]
          exact srtN_ne Ha2.out hj (by rw [srtN_length, Hxl.out]; omega))
        clear hst
        go_wp2_with fail
        refine hh.mono ?_; clear hh; rintro e w7 ⟨g2, g5, X, rfl, hP, hb7⟩
        have Hst7 := Lib.hid (Hst.out.below hb7 (Nat.le_refl _))
        have Hb7 := Lib.hid (Hb5.out.trans (hb7.mono hz5))
        have hz7 := Hb7.out.size
        have HX := Lib.hid hP.inv
        have e63 := enters_planned
        have hh := planned_any w6.heap.size C k m F T g2 g5 x ((srtN xs).take k) X w7 (H.out.later Hb7.out) hP hx
        clear hb7 hP
        go_wp2_with fail
        refine hh.mono ?_; clear hh; rintro e w8 ⟨A8, c8, rfl, hs8, hb8⟩
        have Hs8 := Lib.hid hs8
        have Hst8 := Lib.hid (Hst7.out.below hb8 (Nat.le_refl _))
        have Hb8 := Lib.hid (Hb7.out.trans (hb8.mono hz7))
        clear hs8 hb8
        go_wp2_with fail
        go_ret3
        exact ⟨.inr (.inr ⟨Ha2.out, ⟨by omega, by omega⟩, by omega, A5, c5, A8, c8, X, rfl, Hst8.out, HX.out, by rw [Int.toNat_natCast]; exact Hs8.out⟩), Hb8.out⟩
    · have Hw := Lib.hid (withinB_f hw)
      have Hn := Lib.hid hw
      clear hw
      go_enter Tryz.func18, Tryz.ntmps18
      go_wp2_with fail
      refine (dmade_any C k m F T _ H.out).mono ?_; rintro e w0 ⟨rfl, rfl⟩
      go_wp2_with fail
      have hh := apart_any C k m F T B q d xs w0 H.out Hs.out Hz.out hq
      rw [Ha.out] at hh
      refine hh.mono ?_; clear hh; rintro e w1 ⟨rfl, hb1⟩
      have Hb1 := Lib.hid hb1
      have hz1 := hb1.size
      clear hb1
      go_wp2_with fail
      have hh := dhas_any C k m F T want w1 (H.out.later Hb1.out)
      rw [Hw.out] at hh
      refine hh.mono ?_; clear hh; rintro e w2 ⟨rfl, hb2⟩
      have Hb2 := Lib.hid (Hb1.out.trans (hb2.mono hz1))
      have hz2 := Hb2.out.size
      clear hb2
      go_wp2_with fail
      go_ret3
      exact ⟨.inl ⟨fun hh => Hn.out hh.2, rfl⟩, Hb2.out⟩
  · have ha' : apartB xs (k + m) = false := by simpa using ha
    have Ha := Lib.hid ha'
    clear ha ha'
    go_enter Tryz.func18, Tryz.ntmps18
    go_wp2_with fail
    refine (dmade_any C k m F T _ H.out).mono ?_; rintro e w0 ⟨rfl, rfl⟩
    go_wp2_with fail
    have hh := apart_any C k m F T B q d xs w0 H.out Hs.out Hz.out hq
    rw [Ha.out] at hh
    refine hh.mono ?_; clear hh; rintro e w1 ⟨rfl, hb1⟩
    have Hb1 := Lib.hid hb1
    have hz1 := hb1.size
    clear hb1
    go_wp2_with fail
    go_ret3
    exact ⟨.inl ⟨fun hh => by have := hh.1; rw [Ha.out] at this; exact absurd this (by decide), rfl⟩, Hb1.out⟩
end Go.Proofs.YtgoomiimlfdcmaaGreat

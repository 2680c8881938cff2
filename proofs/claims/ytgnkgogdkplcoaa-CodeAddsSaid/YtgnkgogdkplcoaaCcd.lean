/-
  CodeSplits returns true, whatever its arguments. No condition.
-/
import Derived.Test.YtgnkgogdkplcoaaCca
namespace Go.Proofs.Ytgnkgogdkplcoaa
open Go.RowKit Go.Proofs
set_option linter.unusedVariables false

/-- What Split makes. -/
def splL (k W : Int) (l : List UInt8) : List (List UInt8) := if ¬ (1 ≤ W ∧ W ≤ 65536) then [] else if k * W < (l.length : Int) then [] else cutL l W.toNat k.toNat
def splX (k W : Int) (l : List UInt8) : Int := if ¬ (1 ≤ W ∧ W ≤ 65536) then 2 else if k * W < (l.length : Int) then 260 else 0
/-- What a call answers that makes rows, and an error's number. -/
def RetRows (rs : List (List UInt8)) (x : Int) (w : World) (e : Ending) (w' : World) : Prop := (∃ A n c, e = .returned (.tuple #[.slice A n c, .int .i64 x]) ∧ Gr w' A n c rs) ∧ Below w.heap.size w w'
/-- What a call answers that makes bytes, and an error's number. -/
def RetByx (l : List UInt8) (x : Int) (w : World) (e : Ending) (w' : World) : Prop := (∃ A n c, e = .returned (.tuple #[.slice A n c, .int .i64 x]) ∧ Sl w' 1 A n c (cells l)) ∧ Below w.heap.size w w'
theorem csplit_all (C k m F T : Nat) (A : Option Addr) (c : Nat) (l : List UInt8) (W : Int) (hW1 : -9223372036854775808 ≤ W) (hW2 : W < 9223372036854775808) (w : World) (h : Cod w C k m F T) (hs : Sl w 1 A l.length c (cells l)) :
    Calls Try.prog 23 #[.pointer (some ⟨C, 0, none⟩), .slice A l.length c, .int .i64 W] w (RetRows (splL (k : Int) W l) (splX (k : Int) W l) w) := by
  refine (split_any C k m F T A l.length c l W hW1 hW2 w h hs).mono ?_; rintro e w' ⟨hb, hR⟩
  rcases hR with ⟨h1, rfl⟩ | ⟨h1, h2, rfl⟩ | ⟨h1, h2, g, rfl, hg⟩
  · rw [splL, if_pos h1, splX, if_pos h1]
    exact ⟨⟨none, 0, 0, rfl, Gr.nil _ 0 (by decide)⟩, hb⟩
  · rw [splL, if_neg (fun hh => hh h1), if_pos h2, splX, if_neg (fun hh => hh h1), if_pos h2]
    exact ⟨⟨none, 0, 0, rfl, Gr.nil _ 0 (by decide)⟩, hb⟩
  · rw [splL, if_neg (fun hh => hh h1), if_neg (by omega), splX, if_neg (fun hh => hh h1), if_neg (by omega), Int.toNat_natCast]
    exact ⟨⟨_, _, _, rfl, hg⟩, hb⟩
theorem rsplit_all (k : Nat) (hk1 : 1 ≤ k) (hk : k ≤ 255) (A : Option Addr) (c : Nat) (l : List UInt8) (W : Int) (hW1 : -9223372036854775808 ≤ W) (hW2 : W < 9223372036854775808) (w : World) (hs : Sl w 1 A l.length c (cells l)) :
    Calls Try.prog 24 #[.int .i64 (k : Int), .slice A l.length c, .int .i64 W] w (RetRows (splL (k : Int) W l) (splX (k : Int) W l) w) := by
  refine (rsplit_any k hk1 hk A l.length c l W hW1 hW2 w hs).mono ?_; rintro e w' ⟨hb, hR⟩
  rcases hR with ⟨h1, rfl⟩ | ⟨h1, h2, rfl⟩ | ⟨h1, h2, A', c', rfl, hg⟩
  · rw [splL, if_pos h1, splX, if_pos h1]
    exact ⟨⟨none, 0, 0, rfl, Gr.nil _ 0 (by decide)⟩, hb⟩
  · rw [splL, if_neg (fun hh => hh h1), if_pos h2, splX, if_neg (fun hh => hh h1), if_pos h2]
    exact ⟨⟨none, 0, 0, rfl, Gr.nil _ 0 (by decide)⟩, hb⟩
  · rw [splL, if_neg (fun hh => hh h1), if_neg (by omega), splX, if_neg (fun hh => hh h1), if_neg (by omega), Int.toNat_natCast]
    exact ⟨⟨_, _, _, rfl, hg⟩, hb⟩
instance okJ_dec (rs : List (List UInt8)) (k S : Int) : Decidable (okJ rs k S) := by unfold okJ; infer_instance
/-- What Join makes. -/
def joiL (k S : Int) (rs : List (List UInt8)) : List UInt8 := if okJ rs k S then rs.flatten.take S.toNat else []
def joiX (k S : Int) (rs : List (List UInt8)) : Int := if okJ rs k S then 0 else 2
theorem cjoin_all (C k m F T : Nat) (A : Option Addr) (n c : Nat) (rs : List (List UInt8)) (S : Int) (hS1 : -9223372036854775808 ≤ S) (hS2 : S < 9223372036854775808) (w : World) (h : Cod w C k m F T) (hg : Gr w A n c rs) (hW : ∀ r ∈ rs, r.length ≤ 1048576) :
    Calls Try.prog 25 #[.pointer (some ⟨C, 0, none⟩), .slice A n c, .int .i64 S] w (RetByx (joiL (k : Int) S rs) (joiX (k : Int) S rs) w) := by
  refine (cjoin_any C k m F T A n c rs S hS1 hS2 w h hg hW).mono ?_; rintro e w' ⟨hb, hR⟩
  rcases hR with ⟨h1, rfl⟩ | ⟨h1, A', n', c', rfl, hs⟩
  · rw [joiL, if_neg h1, joiX, if_neg h1]
    exact ⟨⟨none, 0, 0, rfl, Sl.nil _ 1 0 (by decide)⟩, hb⟩
  · rw [joiL, if_pos h1, joiX, if_pos h1]
    exact ⟨⟨_, _, _, rfl, hs⟩, hb⟩
theorem rjoin_all (k : Nat) (hk : k ≤ 255) (A : Option Addr) (n c : Nat) (rs : List (List UInt8)) (S : Int) (hS1 : -9223372036854775808 ≤ S) (hS2 : S < 9223372036854775808) (w : World) (hg : Gr w A n c rs) (hW : ∀ r ∈ rs, r.length ≤ 1048576) :
    Calls Try.prog 26 #[.int .i64 (k : Int), .slice A n c, .int .i64 S] w (RetByx (joiL (k : Int) S rs) (joiX (k : Int) S rs) w) := by
  refine (rjoin5_any k hk A n c rs S hS1 hS2 w hg hW).mono ?_; rintro e w' ⟨hb, hR⟩
  rcases hR with ⟨h1, rfl⟩ | ⟨h1, A', n', c', rfl, hs⟩
  · rw [joiL, if_neg h1, joiX, if_neg h1]
    exact ⟨⟨none, 0, 0, rfl, Sl.nil _ 1 0 (by decide)⟩, hb⟩
  · rw [joiL, if_pos h1, joiX, if_pos h1]
    exact ⟨⟨_, _, _, rfl, hs⟩, hb⟩

set_option maxRecDepth 100000 in
set_option maxHeartbeats 3200000 in
theorem codeSplits_walk (k : Int) (B : Option Addr) (p : Nat) (l : List UInt8) (W : Int) (A : Option Addr) (c : Nat) (rs : List (List UInt8)) (S : Int) (w : World) (hk : -9223372036854775808 ≤ k ∧ k < 9223372036854775808) (hW : -9223372036854775808 ≤ W ∧ W < 9223372036854775808) (hS : -9223372036854775808 ≤ S ∧ S < 9223372036854775808) (hl : Sl w 1 B l.length p (cells l)) (hg : Gr w A rs.length c rs) :
    Calls Try.prog 5 #[.int .i64 k, .slice B l.length p, .int .i64 W, .slice A rs.length c, .int .i64 S] w (SaysTrue w) := by
  have hlim := hg.lim
  have hliml := hl.lim
  unfold maxLen at hlim hliml
  obtain ⟨hW1, hW2⟩ := hW
  obtain ⟨hS1, hS2⟩ := hS
  obtain ⟨n, hn⟩ : ∃ n, n = rs.length := ⟨_, rfl⟩
  rw [← hn] at hlim hg ⊢
  have Hg := Lib.hid hg; clear hg
  have Hn := Lib.hid hn; clear hn
  have Hl := Lib.hid hl; clear hl
  by_cases hmay : 1 ≤ k ∧ (1 : Int) ≤ 1 ∧ k + 1 ≤ 255
  · obtain ⟨K0, hK0⟩ : ∃ x : Nat, k = (x : Int) := ⟨k.toNat, by omega⟩
    subst hK0
    have hb1 : 1 ≤ K0 := by omega
    have hb3 : K0 + 1 ≤ 255 := by omega
    have hrm := fun u => rmay_any (K0 : Int) 1 hk (by decide) u
    rw [mayB_t hmay] at hrm
    clear hmay hk
    by_cases h3k : (3000 : Int) < (l.length : Int)
    · go_enter Try.func5, Try.ntmps5
      go_wp2_with fail
      refine (new_any _).mono ?_; rintro e w1 ⟨rfl, hf, hb⟩
      obtain ⟨F, hF⟩ : ∃ F, F = w.heap.size + 1 := ⟨_, rfl⟩
      obtain ⟨T, hT⟩ : ∃ T, T = w.heap.size := ⟨_, rfl⟩
      rw [← hF] at hf ⊢
      rw [← hT] at hf
      have HT := Lib.hid (show w.heap.size ≤ T by omega)
      clear hF hT
      go_wp2_with fail
      refine (cnew_at F T (K0 : Int) 1 K0 1 rfl rfl ⟨hb1, by decide, hb3⟩ _ hf).mono ?_; rintro e w2 ⟨C, rfl, hC, hr⟩
      have L2 := Lib.hid (Lw.of hb HT.out hr hC.fld)
      have C2 := Lib.hid hC
      clear hf hb hC hr
      go_wp2_with fail
      refine (hrm _).mono ?_; clear hrm; rintro e w3 ⟨rfl, rfl⟩
      go_wp2_with fail
      refine (codes_any _).mono ?_; rintro e wz ⟨rfl, hbz⟩
      have LZ := Lib.hid (L2.out.later hbz)
      clear hbz
      go_wp2_with fail
      go_ret
      exact ⟨rfl, LZ.out.bel⟩
    · by_cases hwide : 300 < W ∧ W ≤ 65536
      · obtain ⟨hwd1, hwd2⟩ := hwide
        go_enter Try.func5, Try.ntmps5
        go_wp2_with fail
        refine (new_any _).mono ?_; rintro e w1 ⟨rfl, hf, hb⟩
        obtain ⟨F, hF⟩ : ∃ F, F = w.heap.size + 1 := ⟨_, rfl⟩
        obtain ⟨T, hT⟩ : ∃ T, T = w.heap.size := ⟨_, rfl⟩
        rw [← hF] at hf ⊢
        rw [← hT] at hf
        have HT := Lib.hid (show w.heap.size ≤ T by omega)
        clear hF hT
        go_wp2_with fail
        refine (cnew_at F T (K0 : Int) 1 K0 1 rfl rfl ⟨hb1, by decide, hb3⟩ _ hf).mono ?_; rintro e w2 ⟨C, rfl, hC, hr⟩
        have L2 := Lib.hid (Lw.of hb HT.out hr hC.fld)
        have C2 := Lib.hid hC
        clear hf hb hC hr
        go_wp2_with fail
        refine (hrm _).mono ?_; clear hrm; rintro e w3 ⟨rfl, rfl⟩
        go_wp2_with fail
        refine (codes_any _).mono ?_; rintro e wz ⟨rfl, hbz⟩
        have LZ := Lib.hid (L2.out.later hbz)
        clear hbz
        go_wp2_with fail
        go_ret
        exact ⟨rfl, LZ.out.bel⟩
      · have hwc : W ≤ 300 ∨ 65536 < W := by omega
        clear hwide
        rcases hwc with hwc | hwc
        all_goals
          go_enter Try.func5, Try.ntmps5
          go_wp2_with fail
          refine (new_any _).mono ?_; rintro e w1 ⟨rfl, hf, hb⟩
          obtain ⟨F, hF⟩ : ∃ F, F = w.heap.size + 1 := ⟨_, rfl⟩
          obtain ⟨T, hT⟩ : ∃ T, T = w.heap.size := ⟨_, rfl⟩
          rw [← hF] at hf ⊢
          rw [← hT] at hf
          have HT := Lib.hid (show w.heap.size ≤ T by omega)
          clear hF hT
          go_wp2_with fail
          refine (cnew_at F T (K0 : Int) 1 K0 1 rfl rfl ⟨hb1, by decide, hb3⟩ _ hf).mono ?_; rintro e w2 ⟨C, rfl, hC, hr⟩
          have L2 := Lib.hid (Lw.of hb HT.out hr hC.fld)
          have C2 := Lib.hid hC
          clear hf hb hC hr
          go_wp2_with fail
          refine (hrm _).mono ?_; clear hrm; rintro e w3 ⟨rfl, rfl⟩
          have G2 := Lib.hid (Hg.out.later L2.out.bel)
          have hx300 : (300 : Int) < 65537 := by decide
          go_wp2_with fail
          refine (few5_any 0 A n c rs _ G2.out).mono ?_; rintro e w4 ⟨rfl, bf, rfl, hfew⟩
          cases bf
          · clear hfew
            go_wp2_with fail
            refine (codes_any _).mono ?_; rintro e wz ⟨rfl, hbz⟩
            have LZ := Lib.hid (L2.out.later hbz)
            clear hbz
            go_wp2_with fail
            go_ret
            exact ⟨rfl, LZ.out.bel⟩
          · obtain ⟨hn260, hrows⟩ := hfew rfl
            have hWr : ∀ r ∈ rs, r.length ≤ 1048576 := fun r hr => Nat.le_trans (hrows r hr) (by decide)
            have HW := Lib.hid hWr
            clear hfew hrows hWr
            have B2 := Lib.hid (Hl.out.below L2.out.bel (Nat.le_refl _))
            go_wp2_with fail
            refine (csplit_all C K0 1 F T B p l W hW1 hW2 _ C2.out B2.out).mono ?_; rintro e w5 ⟨⟨A5, n5, c5, rfl, hg5⟩, hb5⟩
            obtain ⟨x1, hx1⟩ : ∃ x, x = splX (K0 : Int) W l := ⟨_, rfl⟩
            rw [← hx1]
            have Hx1 := Lib.hid hx1; clear hx1
            obtain ⟨r1, hr1⟩ : ∃ r, r = splL (K0 : Int) W l := ⟨_, rfl⟩
            rw [← hr1] at hg5
            have Hr1 := Lib.hid hr1; clear hr1
            have L5 := Lib.hid (L2.out.later hb5)
            have C5 := Lib.hid (C2.out.later hb5)
            have G5 := Lib.hid (G2.out.later hb5)
            have B5 := Lib.hid (B2.out.below hb5 (Nat.le_refl _))
            have X5 := Lib.hid hg5
            clear hb5 hg5 L2 C2 G2 B2
            go_wp2_with fail
            refine (rsplit_all K0 hb1 (by omega) B p l W hW1 hW2 _ B5.out).mono ?_; rintro e w6 ⟨⟨A6, n6, c6, rfl, hg6⟩, hb6⟩
            rw [← Hx1.out]
            rw [← Hr1.out] at hg6
            have L6 := Lib.hid (L5.out.later hb6)
            have C6 := Lib.hid (C5.out.later hb6)
            have G6 := Lib.hid (G5.out.later hb6)
            have X6 := Lib.hid (X5.out.later hb6)
            have Y6 := Lib.hid hg6
            clear hb6 hg6 L5 C5 G5 B5 X5
            go_wp2_with fail
            refine (cjoin_all C K0 1 F T A n c rs S hS1 hS2 _ C6.out G6.out HW.out).mono ?_; rintro e w7 ⟨⟨A7, n7, c7, rfl, hg7⟩, hb7⟩
            obtain ⟨x2, hx2⟩ : ∃ x, x = joiX (K0 : Int) S rs := ⟨_, rfl⟩
            rw [← hx2]
            have Hx2 := Lib.hid hx2; clear hx2
            obtain ⟨l2, hl2⟩ : ∃ r, r = joiL (K0 : Int) S rs := ⟨_, rfl⟩
            rw [← hl2] at hg7
            have Hl2 := Lib.hid hl2; clear hl2
            have L7 := Lib.hid (L6.out.later hb7)
            have G7 := Lib.hid (G6.out.later hb7)
            have X7 := Lib.hid (X6.out.later hb7)
            have Y7 := Lib.hid (Y6.out.later hb7)
            have Z7 := Lib.hid hg7
            clear hb7 hg7 L6 C6 G6 X6 Y6
            go_wp2_with fail
            refine (rjoin_all K0 (by omega) A n c rs S hS1 hS2 _ G7.out HW.out).mono ?_; rintro e w8 ⟨⟨A8, n8, c8, rfl, hg8⟩, hb8⟩
            rw [← Hx2.out]
            rw [← Hl2.out] at hg8
            have L8 := Lib.hid (L7.out.later hb8)
            have X8 := Lib.hid (X7.out.later hb8)
            have Y8 := Lib.hid (Y7.out.later hb8)
            have Z8 := Lib.hid (Z7.out.below hb8 (Nat.le_refl _))
            have V8 := Lib.hid hg8
            clear hb8 hg8 L7 G7 X7 Y7 Z7
            go_wp2_with fail
            refine (rsame5_any A5 n5 c5 r1 A6 n6 c6 r1 _ X8.out Y8.out).mono ?_; rintro e w9 ⟨rfl, hb9⟩
            rw [decide_eq_true rfl]
            have L9 := Lib.hid (L8.out.later hb9)
            have k1 := str_of (Z8.out.below hb9 (Nat.le_refl _))
            have k2 := str_of (V8.out.below hb9 (Nat.le_refl _))
            clear hb9 L8 X8 Y8 Z8 V8
            go_wp2_with fail
            refine (codes_any _).mono ?_; rintro e wz ⟨rfl, hbz⟩
            have LZ := Lib.hid (L9.out.later hbz)
            clear hbz
            go_wp2_with fail
            go_ret
            exact ⟨rfl, LZ.out.bel⟩
  · have hno : mayB k 1 = false := mayB_f hmay
    have hrm := fun u => rmay_any k 1 hk (by decide) u
    rw [hno] at hrm
    have Hno := Lib.hid hno; clear hno hmay
    go_enter Try.func5, Try.ntmps5
    go_wp2_with fail
    refine (new_any _).mono ?_; rintro e w1 ⟨rfl, hf, hb⟩
    obtain ⟨F, hF⟩ : ∃ F, F = w.heap.size + 1 := ⟨_, rfl⟩
    obtain ⟨T, hT⟩ : ∃ T, T = w.heap.size := ⟨_, rfl⟩
    rw [← hF] at hf ⊢
    rw [← hT] at hf
    have HT := Lib.hid (show w.heap.size ≤ T by omega)
    clear hF hT
    go_wp2_with fail
    refine (cnew_no F T k 1 hk (by decide) Hno.out _ hf).mono ?_; rintro e w2 ⟨rfl, hf2, hr⟩
    have L2 := Lib.hid (Lw.of hb HT.out hr hf2)
    clear hf hb hf2 hr
    go_wp2_with fail
    refine (hrm _).mono ?_; clear hrm; rintro e w3 ⟨rfl, rfl⟩
    go_wp2_with fail
    refine (codes_any _).mono ?_; rintro e wz ⟨rfl, hbz⟩
    have LZ := Lib.hid (L2.out.later hbz)
    clear hbz
    go_wp2_with fail
    go_ret
    exact ⟨rfl, LZ.out.bel⟩
end Go.Proofs.Ytgnkgogdkplcoaa

/-
  Contracts of package array's calls at one drive (layer 10), over what is known of package drive ('DrvK'): a drive that is there is asked, or turned; for one that isn't there is an answer. Calls of a drive that is nil. Condition: the array is not nil; bounds. (Written by gen_dtc.py.)
-/
import Derived.Test.YtjjoeaneaibklaaDtb
namespace Go.Proofs.Ytjjoeaneaibklaa
open Go.RowKit Go.Proofs
set_option linter.unusedVariables false

section
variable {Rep : World → (Nat → Prop) → Nat → Dv → Prop} {TA TD : TypeId} {w w' : World} {S : Nat → Prop} {A c i : Nat} {AL : Option Addr} {ds : List Ds} {d : Ds} {xs : List Dv}
theorem DrvK.lay (K : DrvK Rep) : LayR Rep := ⟨fun h hf hT => K.fr h hf hT, fun h => K.old h⟩
/-- The program's array. -/
def AP (Rep : World → (Nat → Prop) → Nat → Dv → Prop) (w : World) (S : Nat → Prop) (A : Nat) (xs : List Dv) : Prop := Arr Rep 63 59 w S A xs
/-- At most so many writes wait at each. -/
def Wl (k : Nat) (xs : List Dv) : Prop := ∀ (i : Nat) (x : Dv), xs[i]? = some x → x.wait.length ≤ k
/-- The array is turned. -/
def MutA (Rep : World → (Nat → Prop) → Nat → Dv → Prop) (S : Nat → Prop) (A : Nat) (ys : List Dv) (w w' : World) : Prop := ∃ S', AP Rep w' S' A ys ∧ Nxt S S' w w'
theorem NewB.nil (w : World) : NewB w none 0 0 [] w := ⟨Sl.nil w 1 0 (by decide), Below.refl _ _, fun b o h => absurd h (Nat.lt_irrefl _)⟩
set_option maxRecDepth 100000
set_option maxHeartbeats 1600000
theorem dvmade_nil (w : World) : Calls Try.prog 79 #[.pointer none] w fun e w' => e = .returned (.bool false) ∧ w' = w := by
  go_enter Try.func79, Try.ntmps79
  go_wp2_with fail
  go_ret
  exact ⟨rfl, rfl⟩
theorem dvsilent_nil (w : World) : Calls Try.prog 75 #[.pointer none] w fun e w' => e = .returned (.int .i64 1) ∧ w' = w := by
  have hm := dvmade_nil w
  go_enter Try.func75, Try.ntmps75
  go_wp2_with fail
  refine hm.mono ?_; clear hm; rintro e w1 ⟨rfl, hw1⟩
  obtain rfl : w = w1 := hw1.symm
  go_wp2_with fail
  go_ret
  exact ⟨rfl, rfl⟩
theorem dvrefuses_nil (z : Int) (w : World) : Calls Try.prog 78 #[.pointer none, .int .i64 z] w fun e w' => e = .returned (.int .i64 1) ∧ w' = w := by
  have hm := dvsilent_nil w
  go_enter Try.func78, Try.ntmps78
  go_wp2_with fail
  refine hm.mono ?_; clear hm; rintro e w1 ⟨rfl, hw1⟩
  obtain rfl : w = w1 := hw1.symm
  go_wp2_with fail
  go_ret
  exact ⟨rfl, rfl⟩
theorem dvdead_nil (w : World) : Calls Try.prog 45 #[.pointer none] w fun e w' => e = .returned (.bool true) ∧ w' = w := by
  have hm := dvsilent_nil w
  go_enter Try.func45, Try.ntmps45
  go_wp2_with fail
  refine hm.mono ?_; clear hm; rintro e w1 ⟨rfl, hw1⟩
  obtain rfl : w = w1 := hw1.symm
  go_wp2_with fail
  go_ret
  exact ⟨rfl, rfl⟩
theorem dvwaits_nil (w : World) : Calls Try.prog 61 #[.pointer none] w fun e w' => e = .returned (.int .i64 0) ∧ w' = w := by
  have hm := dvmade_nil w
  go_enter Try.func61, Try.ntmps61
  go_wp2_with fail
  refine hm.mono ?_; clear hm; rintro e w1 ⟨rfl, hw1⟩
  obtain rfl : w = w1 := hw1.symm
  go_wp2_with fail
  go_ret
  exact ⟨rfl, rfl⟩
theorem dvrotten_nil (z : Int) (w : World) : Calls Try.prog 62 #[.pointer none, .int .i64 z] w fun e w' => e = .returned (.bool false) ∧ w' = w := by
  have hm := dvrefuses_nil z w
  go_enter Try.func62, Try.ntmps62
  go_wp2_with fail
  refine hm.mono ?_; clear hm; rintro e w1 ⟨rfl, hw1⟩
  obtain rfl : w = w1 := hw1.symm
  go_wp2_with fail
  go_ret
  exact ⟨rfl, rfl⟩
theorem dvstored_nil (z : Int) (w : World) : Calls Try.prog 76 #[.pointer none, .int .i64 z] w fun e w' => e = .returned (.slice none 0 0) ∧ w' = w := by
  have hm := dvrefuses_nil z w
  go_enter Try.func76, Try.ntmps76
  go_wp2_with fail
  refine hm.mono ?_; clear hm; rintro e w1 ⟨rfl, hw1⟩
  obtain rfl : w = w1 := hw1.symm
  go_wp2_with fail
  go_ret
  exact ⟨rfl, rfl⟩
theorem arn_any (h : Ars Rep TA TD w S A AL c ds) : Calls Try.prog 17 #[.pointer (some ⟨A, 0, none⟩)] w fun e w' => e = .returned (.int .i64 (ds.length : Int)) ∧ w' = w := by
  have c0 := h.c0
  obtain ⟨n, hn⟩ : ∃ n, n = ds.length := ⟨_, rfl⟩
  rw [← hn] at c0 ⊢
  clear hn h
  go_enter Try.func17, Try.ntmps17
  go_wp2_with fail
  go_ret
  exact ⟨rfl, rfl⟩
theorem arpick_yes (h : Ars Rep TA TD w S A AL c ds) (hd : ds[i]? = some d) : Calls Try.prog 53 #[.pointer (some ⟨A, 0, none⟩), .int .i64 (i : Int)] w fun e w' => e = .returned (.tuple #[.pointer (some ⟨d.D, 0, none⟩), .int .i64 0]) ∧ w' = w := by
  have c0 := h.c0
  have hm := arn_any h
  have hi := get_lt hd
  obtain ⟨g, rfl, hg⟩ := h.at_ (by omega)
  have cg := hg i d hd
  unfold Ds.ptr at cg
  obtain ⟨n, hn⟩ : ∃ n, n = ds.length := ⟨_, rfl⟩
  rw [← hn] at c0 hm hi
  have hm2 := Lib.hid hm
  clear hn h hg hd
  go_enter Try.func53, Try.ntmps53
  go_wp2_with fail
  refine hm.mono ?_; clear hm; rintro e w1 ⟨rfl, hw1⟩
  obtain rfl : w = w1 := hw1.symm
  have hn0 : ¬ (n : Int) = 0 := by omega
  go_wp2_with fail
  refine hm2.out.mono ?_; rintro e w1 ⟨rfl, hw1⟩
  obtain rfl : w = w1 := hw1.symm
  go_wp2_with fail
  go_ret2
  exact ⟨rfl, rfl⟩
theorem arpick_no (h : Ars Rep TA TD w S A AL c ds) (h0 : 0 < ds.length) (z : Int) (hz : z < 0 ∨ (ds.length : Int) ≤ z) : Calls Try.prog 53 #[.pointer (some ⟨A, 0, none⟩), .int .i64 z] w fun e w' => e = .returned (.tuple #[.pointer none, .int .i64 2]) ∧ w' = w := by
  have hm := arn_any h
  obtain ⟨n, hn⟩ : ∃ n, n = ds.length := ⟨_, rfl⟩
  rw [← hn] at hm h0 hz
  have hm2 := Lib.hid hm
  have hn0 : ¬ (n : Int) = 0 := by omega
  clear hn h
  by_cases hzn : z < 0
  · go_enter Try.func53, Try.ntmps53
    go_wp2_with fail
    refine hm.mono ?_; clear hm; rintro e w1 ⟨rfl, hw1⟩
    obtain rfl : w = w1 := hw1.symm
    go_wp2_with fail
    go_ret2
    exact ⟨rfl, rfl⟩
  · have hz2 : (n : Int) ≤ z := by omega
    clear hz
    go_enter Try.func53, Try.ntmps53
    go_wp2_with fail
    refine hm.mono ?_; clear hm; rintro e w1 ⟨rfl, hw1⟩
    obtain rfl : w = w1 := hw1.symm
    go_wp2_with fail
    refine hm2.out.mono ?_; rintro e w1 ⟨rfl, hw1⟩
    obtain rfl : w = w1 := hw1.symm
    go_wp2_with fail
    go_ret2
    exact ⟨rfl, rfl⟩
theorem arread_any (K : DrvK Rep) (h : AP Rep w S A xs) (h0 : 0 < xs.length) (z : Int) (at_ : Int) (h1 : -9223372036854775808 ≤ at_) (h2 : at_ < 9223372036854775808) (hw : Wl 100000 xs) : Calls Try.prog 26 #[.pointer (some ⟨A, 0, none⟩), .int .i64 z, .int .i64 at_] w fun e w' => ∃ A' n c, e = .returned (.tuple #[.slice A' n c, .int .i64 (tellD xs z (fun x => x.readX at_) 2)]) ∧ NewB w A' n c (tellD xs z (fun x => x.readL at_) []) w' := by
  obtain ⟨AL, c, ds, h, hxs⟩ := h
  have hl := xs_len hxs
  rcases ofD_cases xs z with ⟨i, x, rfl, hx⟩ | hn
  · obtain ⟨d, hd, rfl⟩ := xs_at hxs hx
    have hp := arpick_yes h hd
    have hrep := (h.rep i d hd).1
    have hC := K.read at_ h1 h2 (hw i d.x hx) hrep
    simp only [tellD_yes hx]
    have HD := Lib.hid hd
    have HX := Lib.hid hxs
    have HA := Lib.hid h
    clear hrep hd hxs h hl hx
    go_enter Try.func26, Try.ntmps26
    go_wp2_with fail
    refine hp.mono ?_; clear hp; rintro e w1 ⟨rfl, hw1⟩
    obtain rfl : w = w1 := hw1.symm
    go_wp2_with fail
    refine hC.mono ?_; clear hC; rintro e w2 ⟨A2, n2, c2, rfl, hb2⟩
    go_wp2_with fail
    go_ret2
    exact ⟨A2, n2, c2, rfl, hb2⟩
  · have hp := arpick_no h (by omega) z (by omega)
    simp only [tellD_no hn]
    have HA := Lib.hid h
    have HX := Lib.hid hxs
    clear hn h hl hxs
    go_enter Try.func26, Try.ntmps26
    go_wp2_with fail
    refine hp.mono ?_; clear hp; rintro e w1 ⟨rfl, hw1⟩
    obtain rfl : w = w1 := hw1.symm
    go_wp2_with fail
    go_ret2
    exact ⟨none, 0, 0, rfl, NewB.nil w⟩
theorem arwrite_any (K : DrvK Rep) (h : AP Rep w S A xs) (h0 : 0 < xs.length) (z : Int) (at_ : Int) (A2 : Option Addr) (n2 c2 : Nat) (l : List UInt8) (h1 : -9223372036854775808 ≤ at_) (h2 : at_ < 9223372036854775808) (hw : Wl 100000 xs) (hs : Sl w 1 A2 n2 c2 (cells l)) : Calls Try.prog 21 #[.pointer (some ⟨A, 0, none⟩), .int .i64 z, .int .i64 at_, .slice A2 n2 c2] w fun e w' => e = .returned (.int .i64 (tellD xs z (fun x => x.writeX at_ l) 2)) ∧ MutA Rep S A (onD xs z (fun x => x.write at_ l)) w w' := by
  obtain ⟨AL, c, ds, h, hxs⟩ := h
  have hl := xs_len hxs
  rcases ofD_cases xs z with ⟨i, x, rfl, hx⟩ | hn
  · obtain ⟨d, hd, rfl⟩ := xs_at hxs hx
    have hp := arpick_yes h hd
    have hrep := (h.rep i d hd).1
    have hC := K.write at_ A2 n2 c2 l h1 h2 (hw i d.x hx) hrep hs
    simp only [tellD_yes hx, onD_yes hx]
    have HD := Lib.hid hd
    have HX := Lib.hid hxs
    have HA := Lib.hid h
    clear hrep hd hxs h hl hx
    go_enter Try.func21, Try.ntmps21
    go_wp2_with fail
    refine hp.mono ?_; clear hp; rintro e w1 ⟨rfl, hw1⟩
    obtain rfl : w = w1 := hw1.symm
    go_wp2_with fail
    refine hC.mono ?_; clear hC; rintro e w2 ⟨rfl, S2, hr2, hf2, hs2⟩
    go_wp2_with fail
    go_ret
    exact ⟨rfl, HA.out.turn K.lay K.lay (fun _ _ _ _ q => q) HX.out HD.out hr2 hf2 hs2⟩
  · have hp := arpick_no h (by omega) z (by omega)
    simp only [tellD_no hn, onD_no hn]
    have HA := Lib.hid h
    have HX := Lib.hid hxs
    clear hn h hl hxs
    go_enter Try.func21, Try.ntmps21
    go_wp2_with fail
    refine hp.mono ?_; clear hp; rintro e w1 ⟨rfl, hw1⟩
    obtain rfl : w = w1 := hw1.symm
    go_wp2_with fail
    go_ret
    exact ⟨rfl, S, ⟨AL, c, ds, HA.out, HX.out⟩, Nxt.refl _ _⟩
theorem arrot_any (K : DrvK Rep) (h : AP Rep w S A xs) (h0 : 0 < xs.length) (z : Int) (at_ off : Int) (mask : Nat) (h1 : -9223372036854775808 ≤ at_) (h2 : at_ < 9223372036854775808) (h3 : -9223372036854775808 ≤ off) (h4 : off < 9223372036854775808) (h5 : mask < 4294967296) : Calls Try.prog 25 #[.pointer (some ⟨A, 0, none⟩), .int .i64 z, .int .i64 at_, .int .i64 off, .int .u32 (mask : Int)] w fun e w' => e = .returned (.int .i64 (tellD xs z (fun x => x.rotX at_ off (mask : Int)) 2)) ∧ MutA Rep S A (onD xs z (fun x => x.rot1 at_ off (mask : Int))) w w' := by
  obtain ⟨AL, c, ds, h, hxs⟩ := h
  have hl := xs_len hxs
  rcases ofD_cases xs z with ⟨i, x, rfl, hx⟩ | hn
  · obtain ⟨d, hd, rfl⟩ := xs_at hxs hx
    have hp := arpick_yes h hd
    have hrep := (h.rep i d hd).1
    have hC := K.rot at_ off mask h1 h2 h3 h4 h5 hrep
    simp only [tellD_yes hx, onD_yes hx]
    have HD := Lib.hid hd
    have HX := Lib.hid hxs
    have HA := Lib.hid h
    clear hrep hd hxs h hl hx
    go_enter Try.func25, Try.ntmps25
    go_wp2_with fail
    refine hp.mono ?_; clear hp; rintro e w1 ⟨rfl, hw1⟩
    obtain rfl : w = w1 := hw1.symm
    go_wp2_with fail
    refine hC.mono ?_; clear hC; rintro e w2 ⟨rfl, S2, hr2, hf2, hs2⟩
    go_wp2_with fail
    go_ret
    exact ⟨rfl, HA.out.turn K.lay K.lay (fun _ _ _ _ q => q) HX.out HD.out hr2 hf2 hs2⟩
  · have hp := arpick_no h (by omega) z (by omega)
    simp only [tellD_no hn, onD_no hn]
    have HA := Lib.hid h
    have HX := Lib.hid hxs
    clear hn h hl hxs
    go_enter Try.func25, Try.ntmps25
    go_wp2_with fail
    refine hp.mono ?_; clear hp; rintro e w1 ⟨rfl, hw1⟩
    obtain rfl : w = w1 := hw1.symm
    go_wp2_with fail
    go_ret
    exact ⟨rfl, S, ⟨AL, c, ds, HA.out, HX.out⟩, Nxt.refl _ _⟩
theorem ardead_any (K : DrvK Rep) (h : AP Rep w S A xs) (h0 : 0 < xs.length) (z : Int) : Calls Try.prog 27 #[.pointer (some ⟨A, 0, none⟩), .int .i64 z] w fun e w' => e = .returned (.bool (tellD xs z (fun x => x.gone) true)) ∧ Below w.heap.size w w' := by
  obtain ⟨AL, c, ds, h, hxs⟩ := h
  have hl := xs_len hxs
  rcases ofD_cases xs z with ⟨i, x, rfl, hx⟩ | hn
  · obtain ⟨d, hd, rfl⟩ := xs_at hxs hx
    have hp := arpick_yes h hd
    have hrep := (h.rep i d hd).1
    have hC := K.dead hrep
    simp only [tellD_yes hx]
    have HD := Lib.hid hd
    have HX := Lib.hid hxs
    have HA := Lib.hid h
    clear hrep hd hxs h hl hx
    go_enter Try.func27, Try.ntmps27
    go_wp2_with fail
    refine hp.mono ?_; clear hp; rintro e w1 ⟨rfl, hw1⟩
    obtain rfl : w = w1 := hw1.symm
    go_wp2_with fail
    refine hC.mono ?_; clear hC; rintro e w2 ⟨rfl, hb2⟩
    go_wp2_with fail
    go_ret
    exact ⟨rfl, hb2⟩
  · have hp := arpick_no h (by omega) z (by omega)
    simp only [tellD_no hn]
    have HA := Lib.hid h
    have HX := Lib.hid hxs
    clear hn h hl hxs
    go_enter Try.func27, Try.ntmps27
    go_wp2_with fail
    refine hp.mono ?_; clear hp; rintro e w1 ⟨rfl, hw1⟩
    obtain rfl : w = w1 := hw1.symm
    go_wp2_with fail
    refine (dvdead_nil w).mono ?_; rintro e w1 ⟨rfl, hw1⟩
    obtain rfl : w = w1 := hw1.symm
    go_wp2_with fail
    go_ret
    exact ⟨rfl, Below.refl _ _⟩
theorem arwaits_any (K : DrvK Rep) (h : AP Rep w S A xs) (h0 : 0 < xs.length) (z : Int) : Calls Try.prog 28 #[.pointer (some ⟨A, 0, none⟩), .int .i64 z] w fun e w' => e = .returned (.int .i64 (tellD xs z (fun x => (x.wait.length : Int)) 0)) ∧ Below w.heap.size w w' := by
  obtain ⟨AL, c, ds, h, hxs⟩ := h
  have hl := xs_len hxs
  rcases ofD_cases xs z with ⟨i, x, rfl, hx⟩ | hn
  · obtain ⟨d, hd, rfl⟩ := xs_at hxs hx
    have hp := arpick_yes h hd
    have hrep := (h.rep i d hd).1
    have hC := K.waits hrep
    simp only [tellD_yes hx]
    have HD := Lib.hid hd
    have HX := Lib.hid hxs
    have HA := Lib.hid h
    clear hrep hd hxs h hl hx
    go_enter Try.func28, Try.ntmps28
    go_wp2_with fail
    refine hp.mono ?_; clear hp; rintro e w1 ⟨rfl, hw1⟩
    obtain rfl : w = w1 := hw1.symm
    go_wp2_with fail
    refine hC.mono ?_; clear hC; rintro e w2 ⟨rfl, hb2⟩
    go_wp2_with fail
    go_ret
    exact ⟨rfl, hb2⟩
  · have hp := arpick_no h (by omega) z (by omega)
    simp only [tellD_no hn]
    have HA := Lib.hid h
    have HX := Lib.hid hxs
    clear hn h hl hxs
    go_enter Try.func28, Try.ntmps28
    go_wp2_with fail
    refine hp.mono ?_; clear hp; rintro e w1 ⟨rfl, hw1⟩
    obtain rfl : w = w1 := hw1.symm
    go_wp2_with fail
    refine (dvwaits_nil w).mono ?_; rintro e w1 ⟨rfl, hw1⟩
    obtain rfl : w = w1 := hw1.symm
    go_wp2_with fail
    go_ret
    exact ⟨rfl, Below.refl _ _⟩
theorem arrotten_any (K : DrvK Rep) (h : AP Rep w S A xs) (h0 : 0 < xs.length) (z : Int) (at_ : Int) (h1 : -9223372036854775808 ≤ at_) (h2 : at_ < 9223372036854775808) : Calls Try.prog 29 #[.pointer (some ⟨A, 0, none⟩), .int .i64 z, .int .i64 at_] w fun e w' => e = .returned (.bool (tellD xs z (fun x => x.rottenB at_) false)) ∧ Below w.heap.size w w' := by
  obtain ⟨AL, c, ds, h, hxs⟩ := h
  have hl := xs_len hxs
  rcases ofD_cases xs z with ⟨i, x, rfl, hx⟩ | hn
  · obtain ⟨d, hd, rfl⟩ := xs_at hxs hx
    have hp := arpick_yes h hd
    have hrep := (h.rep i d hd).1
    have hC := K.rotten at_ h1 h2 hrep
    simp only [tellD_yes hx]
    have HD := Lib.hid hd
    have HX := Lib.hid hxs
    have HA := Lib.hid h
    clear hrep hd hxs h hl hx
    go_enter Try.func29, Try.ntmps29
    go_wp2_with fail
    refine hp.mono ?_; clear hp; rintro e w1 ⟨rfl, hw1⟩
    obtain rfl : w = w1 := hw1.symm
    go_wp2_with fail
    refine hC.mono ?_; clear hC; rintro e w2 ⟨rfl, hb2⟩
    go_wp2_with fail
    go_ret
    exact ⟨rfl, hb2⟩
  · have hp := arpick_no h (by omega) z (by omega)
    simp only [tellD_no hn]
    have HA := Lib.hid h
    have HX := Lib.hid hxs
    clear hn h hl hxs
    go_enter Try.func29, Try.ntmps29
    go_wp2_with fail
    refine hp.mono ?_; clear hp; rintro e w1 ⟨rfl, hw1⟩
    obtain rfl : w = w1 := hw1.symm
    go_wp2_with fail
    refine (dvrotten_nil at_ w).mono ?_; rintro e w1 ⟨rfl, hw1⟩
    obtain rfl : w = w1 := hw1.symm
    go_wp2_with fail
    go_ret
    exact ⟨rfl, Below.refl _ _⟩
theorem arstored_any (K : DrvK Rep) (h : AP Rep w S A xs) (h0 : 0 < xs.length) (z : Int) (at_ : Int) (h1 : -9223372036854775808 ≤ at_) (h2 : at_ < 9223372036854775808) : Calls Try.prog 48 #[.pointer (some ⟨A, 0, none⟩), .int .i64 z, .int .i64 at_] w fun e w' => ∃ A' n c, e = .returned (.slice A' n c) ∧ NewB w A' n c (tellD xs z (fun x => x.storedL at_) []) w' := by
  obtain ⟨AL, c, ds, h, hxs⟩ := h
  have hl := xs_len hxs
  rcases ofD_cases xs z with ⟨i, x, rfl, hx⟩ | hn
  · obtain ⟨d, hd, rfl⟩ := xs_at hxs hx
    have hp := arpick_yes h hd
    have hrep := (h.rep i d hd).1
    have hC := K.stored at_ h1 h2 hrep
    simp only [tellD_yes hx]
    have HD := Lib.hid hd
    have HX := Lib.hid hxs
    have HA := Lib.hid h
    clear hrep hd hxs h hl hx
    go_enter Try.func48, Try.ntmps48
    go_wp2_with fail
    refine hp.mono ?_; clear hp; rintro e w1 ⟨rfl, hw1⟩
    obtain rfl : w = w1 := hw1.symm
    go_wp2_with fail
    refine hC.mono ?_; clear hC; rintro e w2 ⟨A2, n2, c2, rfl, hb2⟩
    go_wp2_with fail
    go_ret
    exact ⟨A2, n2, c2, rfl, hb2⟩
  · have hp := arpick_no h (by omega) z (by omega)
    simp only [tellD_no hn]
    have HA := Lib.hid h
    have HX := Lib.hid hxs
    clear hn h hl hxs
    go_enter Try.func48, Try.ntmps48
    go_wp2_with fail
    refine hp.mono ?_; clear hp; rintro e w1 ⟨rfl, hw1⟩
    obtain rfl : w = w1 := hw1.symm
    go_wp2_with fail
    refine (dvstored_nil at_ w).mono ?_; rintro e w1 ⟨rfl, hw1⟩
    obtain rfl : w = w1 := hw1.symm
    go_wp2_with fail
    go_ret
    exact ⟨none, 0, 0, rfl, NewB.nil w⟩
theorem arhave_fail (K : DrvK Rep) (h : AP Rep w S A xs) (h0 : 0 < xs.length) (z : Int) : Calls Try.prog 57 #[.pointer (some ⟨A, 0, none⟩), .int .i64 z, .func (.func 58) #[] #[]] w fun e w' => e = .returned (.int .i64 (tellD xs z (fun _ => 0) 2)) ∧ MutA Rep S A (onD xs z (fun x => x.fail)) w w' := by
  obtain ⟨AL, c, ds, h, hxs⟩ := h
  have hl := xs_len hxs
  rcases ofD_cases xs z with ⟨i, x, rfl, hx⟩ | hn
  · obtain ⟨d, hd, rfl⟩ := xs_at hxs hx
    have hp := arpick_yes h hd
    have hC := K.fail (h.rep i d hd).1
    simp only [tellD_yes hx, onD_yes hx]
    have HD := Lib.hid hd
    have HX := Lib.hid hxs
    have HA := Lib.hid h
    clear hd hxs h hl hx
    go_enter Try.func57, Try.ntmps57
    go_wp2_with fail
    refine hp.mono ?_; clear hp; rintro e w1 ⟨rfl, hw1⟩
    obtain rfl : w = w1 := hw1.symm
    go_wp2_with fail
    refine hC.mono ?_; clear hC; rintro e w2 ⟨rfl, S2, hr2, hf2, hs2⟩
    go_wp2_with fail
    go_ret
    exact ⟨rfl, HA.out.turn K.lay K.lay (fun _ _ _ _ q => q) HX.out HD.out hr2 hf2 hs2⟩
  · have hp := arpick_no h (by omega) z (by omega)
    simp only [tellD_no hn, onD_no hn]
    have HA := Lib.hid h
    have HX := Lib.hid hxs
    clear hn h hl hxs
    go_enter Try.func57, Try.ntmps57
    go_wp2_with fail
    refine hp.mono ?_; clear hp; rintro e w1 ⟨rfl, hw1⟩
    obtain rfl : w = w1 := hw1.symm
    go_wp2_with fail
    go_ret
    exact ⟨rfl, S, ⟨AL, c, ds, HA.out, HX.out⟩, Nxt.refl _ _⟩
theorem arfail_any (K : DrvK Rep) (h : AP Rep w S A xs) (h0 : 0 < xs.length) (z : Int) : Calls Try.prog 23 #[.pointer (some ⟨A, 0, none⟩), .int .i64 z] w fun e w' => e = .returned (.int .i64 (tellD xs z (fun _ => 0) 2)) ∧ MutA Rep S A (onD xs z (fun x => x.fail)) w w' := by
  have hC := arhave_fail K h h0 z
  clear h
  go_enter Try.func23, Try.ntmps23
  go_wp2_with fail
  refine hC.mono ?_; clear hC; rintro e w2 ⟨rfl, hm2⟩
  go_wp2_with fail
  go_ret
  exact ⟨rfl, hm2⟩
theorem arhave_replace (K : DrvK Rep) (h : AP Rep w S A xs) (h0 : 0 < xs.length) (z : Int) : Calls Try.prog 57 #[.pointer (some ⟨A, 0, none⟩), .int .i64 z, .func (.func 59) #[] #[]] w fun e w' => e = .returned (.int .i64 (tellD xs z (fun _ => 0) 2)) ∧ MutA Rep S A (onD xs z (fun x => x.replace)) w w' := by
  obtain ⟨AL, c, ds, h, hxs⟩ := h
  have hl := xs_len hxs
  rcases ofD_cases xs z with ⟨i, x, rfl, hx⟩ | hn
  · obtain ⟨d, hd, rfl⟩ := xs_at hxs hx
    have hp := arpick_yes h hd
    have hC := K.replace (h.rep i d hd).1
    simp only [tellD_yes hx, onD_yes hx]
    have HD := Lib.hid hd
    have HX := Lib.hid hxs
    have HA := Lib.hid h
    clear hd hxs h hl hx
    go_enter Try.func57, Try.ntmps57
    go_wp2_with fail
    refine hp.mono ?_; clear hp; rintro e w1 ⟨rfl, hw1⟩
    obtain rfl : w = w1 := hw1.symm
    go_wp2_with fail
    refine hC.mono ?_; clear hC; rintro e w2 ⟨rfl, S2, hr2, hf2, hs2⟩
    go_wp2_with fail
    go_ret
    exact ⟨rfl, HA.out.turn K.lay K.lay (fun _ _ _ _ q => q) HX.out HD.out hr2 hf2 hs2⟩
  · have hp := arpick_no h (by omega) z (by omega)
    simp only [tellD_no hn, onD_no hn]
    have HA := Lib.hid h
    have HX := Lib.hid hxs
    clear hn h hl hxs
    go_enter Try.func57, Try.ntmps57
    go_wp2_with fail
    refine hp.mono ?_; clear hp; rintro e w1 ⟨rfl, hw1⟩
    obtain rfl : w = w1 := hw1.symm
    go_wp2_with fail
    go_ret
    exact ⟨rfl, S, ⟨AL, c, ds, HA.out, HX.out⟩, Nxt.refl _ _⟩
theorem arreplace_any (K : DrvK Rep) (h : AP Rep w S A xs) (h0 : 0 < xs.length) (z : Int) : Calls Try.prog 24 #[.pointer (some ⟨A, 0, none⟩), .int .i64 z] w fun e w' => e = .returned (.int .i64 (tellD xs z (fun _ => 0) 2)) ∧ MutA Rep S A (onD xs z (fun x => x.replace)) w w' := by
  have hC := arhave_replace K h h0 z
  clear h
  go_enter Try.func24, Try.ntmps24
  go_wp2_with fail
  refine hC.mono ?_; clear hC; rintro e w2 ⟨rfl, hm2⟩
  go_wp2_with fail
  go_ret
  exact ⟨rfl, hm2⟩
theorem arsectors_any (K : DrvK Rep) (h : AP Rep w S A xs) {x : Dv} (hx : xs[0]? = some x) : Calls Try.prog 18 #[.pointer (some ⟨A, 0, none⟩)] w fun e w' => e = .returned (.int .i64 (x.n : Int)) ∧ Below w.heap.size w w' := by
  obtain ⟨AL, c, ds, h, hxs⟩ := h
  obtain ⟨d, hd, rfl⟩ := xs_at hxs hx
  have hp := arpick_yes h hd
  have hC := K.sectors (h.rep 0 d hd).1
  clear hd hxs h hx
  go_enter Try.func18, Try.ntmps18
  go_wp2_with fail
  refine hp.mono ?_; clear hp; rintro e w1 ⟨rfl, hw1⟩
  obtain rfl : w = w1 := hw1.symm
  go_wp2_with fail
  refine hC.mono ?_; clear hC; rintro e w2 ⟨rfl, hb2⟩
  go_wp2_with fail
  go_ret
  exact ⟨rfl, hb2⟩
theorem arN_any (h : AP Rep w S A xs) : Calls Try.prog 17 #[.pointer (some ⟨A, 0, none⟩)] w fun e w' => e = .returned (.int .i64 (xs.length : Int)) ∧ w' = w := by
  obtain ⟨AL, c, ds, h, hxs⟩ := h
  rw [← xs_len hxs]
  exact arn_any h
end
end Go.Proofs.Ytjjoeaneaibklaa

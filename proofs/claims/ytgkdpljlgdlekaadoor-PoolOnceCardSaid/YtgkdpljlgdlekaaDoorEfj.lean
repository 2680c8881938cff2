/-
  A pool within a law's call; layer 14's gives: true. Condition: the table reads as the row lists it ('Tz').
-/
import Derived.Test.YtgkdpljlgdlekaaDoorEfh
import Derived.Test.YtgkdpljlgdlekaaDoorEfi
namespace Go.Proofs.YtgkdpljlgdlekaaDoor
open Go.RowKit Go.Proofs
set_option linter.unusedVariables false
set_option maxRecDepth 20000
set_option maxHeartbeats 1600000

/-- A pool within a call that began in w0. -/
structure Lw14 (w0 w : World) (S : Nat → Prop) (P : Nat) (p : Ps) : Prop where
  pl : Pl w S P p
  bel : Below w0.heap.size w0 w
  lo : ∀ b, S b → w0.heap.size ≤ b
section
variable {w0 w w' : World} {S : Nat → Prop} {P : Nat} {p q : Ps}
theorem Lw14.later (h : Lw14 w0 w S P p) (hb : Below w.heap.size w w') : Lw14 w0 w' S P p := ⟨h.pl.later hb, h.bel.trans (hb.mono h.bel.size), h.lo⟩
theorem Lw14.mut (h : Lw14 w0 w S P p) (hp : Pl w' S P q) (hf : Fr S w w') : Lw14 w0 w' S P q := ⟨hp, h.bel.trans (hf.below h.bel.size h.lo), h.lo⟩
theorem Lw14.tz (h : Lw14 w0 w S P p) (hN : Tz w0) : Tz w := hN.keep h.bel
end
/-- Places that were answered. -/
structure Kp14 (w : World) (S : Nat → Prop) (b : Nat) (l : List Nat) : Prop where
  rw : Rw w b 3 1 l.length l.length (ncells l)
  off : ¬ S b
theorem Kp14.fr {w w' : World} {S : Nat → Prop} {b : Nat} {l : List Nat} (h : Kp14 w S b l) (hf : Fr S w w') : Kp14 w' S b l := ⟨h.rw.fr hf h.off, h.off⟩
theorem Kp14.later {w w' : World} {S : Nat → Prop} {b : Nat} {l : List Nat} (h : Kp14 w S b l) (hb : Below w.heap.size w w') : Kp14 w' S b l := ⟨h.rw.later hb, h.off⟩
theorem take_yes14 {w0 w : World} {S : Nat → Prop} {P : Nat} {p : Ps} (h : Lw14 w0 w S P p) (hN : Tz w0) (n : Int) (hn : 0 ≤ n) (hn2 : n < 9223372036854775808) (l : List Nat) (e : leastD p.n p.f n = l) (el : (l.length : Int) = n) :
    Calls Tryd.prog 8 #[.pointer (some ⟨P, 0, none⟩), .int .i64 n] w fun e w' => ∃ b, e = .returned (.tuple #[.slice (some ⟨b, 0, none⟩) l.length l.length, .int .i64 0]) ∧ Kp14 w' S b (placesL p l) ∧ Lw14 w0 w' S P (takeAll p (intsOf (placesL p l))) ∧ Fr S w w' := by
  refine (take_any S P p n hn hn2 w h.pl (h.tz hN)).mono ?_
  unfold RetTake
  rw [e]
  rintro e w' (⟨h1, _⟩ | ⟨_, b, rfl, hr, hb, hp, hf⟩)
  · omega
  · refine ⟨b, rfl, ⟨?_, fun hs => by have := h.pl.lt b hs; omega⟩, h.mut hp hf, hf⟩
    rw [placesL, List.length_map]
    exact hr
theorem take_few14 {w0 w : World} {S : Nat → Prop} {P : Nat} {p : Ps} (h : Lw14 w0 w S P p) (hN : Tz w0) (n : Int) (hn : 0 ≤ n) (hn2 : n < 9223372036854775808) (l : List Nat) (e : leastD p.n p.f n = l) (el : (l.length : Int) < n) :
    Calls Tryd.prog 8 #[.pointer (some ⟨P, 0, none⟩), .int .i64 n] w fun e w' => e = .returned (.tuple #[.slice none 0 0, .int .i64 140]) ∧ Lw14 w0 w' S P p ∧ Below w.heap.size w w' := by
  refine (take_any S P p n hn hn2 w h.pl (h.tz hN)).mono ?_
  unfold RetTake
  rw [e]
  rintro e w' (⟨_, rfl, hb⟩ | ⟨h1, _⟩)
  · exact ⟨rfl, h.later hb, hb⟩
  · omega

/-! The page's example. -/
def gp1 : Ps := takeAll (newP 10 3) (intsOf (placesL (newP 10 3) [0, 1]))
def gp2 : Ps := laterAll gp1 [10]
def gp3 : Ps := settledP gp2
def gp4 : Ps := takeAll gp3 (intsOf (placesL gp3 [0, 2]))
theorem gives14_any (w : World) (hN : Tz w) : Calls Tryd.prog 7 #[] w (SaysTrue w) := by
  have h0 := pnew_yes 10 3 (by decide) (by decide) (by decide) w
  rw [show (((10 : Nat)) : Int) = 10 from rfl, show (((3 : Nat)) : Int) = 3 from rfl] at h0
  have hz := fun W => pnew_no 0 0 (by decide) (by decide) (by decide) W
  have HN := Lib.hid hN
  clear hN
  go_enter Tryd.func7, Tryd.ntmps7
  go_wp2_with fail
  refine h0.mono ?_; clear h0; rintro e w1 ⟨S, P, rfl, hp, hb, hS⟩
  have L1 := Lib.hid (show Lw14 w w1 S P (newP 10 3) from ⟨hp, hb, hS⟩)
  have h1 := take_yes14 L1.out HN.out 2 (by decide) (by decide) [0, 1] (by decide +kernel) rfl
  clear hp hb hS
  go_wp2_with fail
  refine h1.mono ?_; clear h1; rintro e w2 ⟨b2, rfl, hk, hl, hf⟩
  have K2 := Lib.hid (show Kp14 w2 S b2 [10, 11] from hk)
  have L2 := Lib.hid (show Lw14 w w2 S P gp1 from hl)
  clear hk hl hf
  have hbx : Below w2.heap.size w2 (w2.alloc (.cells #[.int .i64 10] 3)) := (Below.refl _ _).alloc (Nat.le_refl _) _
  have h2 := later_any S P gp1 (some ⟨w2.heap.size, 0, none⟩) 1 1 [10] _ (L2.out.later hbx).pl (Sl.made w2 #[.int .i64 10] 3 1 1 rfl (by decide)) rfl (fun z hz => by rw [List.mem_singleton.1 hz]; decide) (fun b o _ e => by
    injection e with e
    injection e with e _
    intro hs
    have := L2.out.pl.lt b hs
    omega)
  rw [show (becL laterS gp1.a (0, gp1) [10]).1 = 1 by decide +kernel] at h2
  have HB := Lib.hid hbx
  clear hbx
  go_wp2_with fail
  refine h2.mono ?_; clear h2; rintro e w3 ⟨rfl, hp, hf⟩
  have L3 := Lib.hid (show Lw14 w w3 S P gp2 from (L2.out.later HB.out).mut hp hf)
  have K3 := Lib.hid ((K2.out.later HB.out).fr hf)
  have h3 := take_few14 L3.out HN.out 2 (by decide) (by decide) [] (by decide +kernel) (by decide)
  clear hp hf
  go_wp2_with fail
  refine h3.mono ?_; clear h3; rintro e w4 ⟨rfl, hl, hb⟩
  have L4 := Lib.hid hl
  have K4 := Lib.hid (K3.out.later hb)
  have h4 := settle_any S P gp2 w4 L4.out.pl (L4.out.tz HN.out)
  rw [show cntL gp2.n gp2.g = 1 by decide +kernel] at h4
  clear hl hb
  go_wp2_with fail
  refine h4.mono ?_; clear h4; rintro e w5 ⟨rfl, hp, hf⟩
  have L5 := Lib.hid (show Lw14 w w5 S P gp3 from L4.out.mut hp hf)
  have K5 := Lib.hid (K4.out.fr hf)
  have h5 := take_yes14 L5.out HN.out 2 (by decide) (by decide) [0, 2] (by decide +kernel) rfl
  clear hp hf
  go_wp2_with fail
  refine h5.mono ?_; clear h5; rintro e w6 ⟨b6, rfl, hk, hl, hf⟩
  have Q6 := Lib.hid (show Kp14 w6 S b6 [10, 12] from hk)
  have L6 := Lib.hid (show Lw14 w w6 S P gp4 from hl)
  have K6 := Lib.hid (K5.out.fr hf)
  clear hk hl hf
  have hb7 : Below w6.heap.size w6 (w6.alloc (.cells #[.int .i64 10, .int .i64 11] 3)) := (Below.refl _ _).alloc (Nat.le_refl _) _
  have h7 := rints_any (some ⟨b2, 0, none⟩) 2 2 [10, 11] (some ⟨w6.heap.size, 0, none⟩) 2 2 [10, 11] _ (K6.out.later hb7).rw.sl (Sl.made w6 #[.int .i64 10, .int .i64 11] 3 1 2 rfl (by decide))
  rw [decide_eq_true rfl] at h7
  have L7 := Lib.hid (L6.out.later hb7)
  have Q7 := Lib.hid (Q6.out.later hb7)
  clear hb7
  go_wp2_with fail
  refine h7.mono ?_; clear h7; rintro e w8 ⟨rfl, hb⟩
  have L8 := Lib.hid (L7.out.later hb)
  have Q8 := Lib.hid (Q7.out.later hb)
  clear hb
  have hb9 : Below w8.heap.size w8 (w8.alloc (.cells #[.int .i64 10, .int .i64 12] 3)) := (Below.refl _ _).alloc (Nat.le_refl _) _
  have h9 := rints_any (some ⟨b6, 0, none⟩) 2 2 [10, 12] (some ⟨w8.heap.size, 0, none⟩) 2 2 [10, 12] _ (Q8.out.later hb9).rw.sl (Sl.made w8 #[.int .i64 10, .int .i64 12] 3 1 2 rfl (by decide))
  rw [decide_eq_true rfl] at h9
  have L9 := Lib.hid (L8.out.later hb9)
  clear hb9
  go_wp2_with fail
  refine h9.mono ?_; clear h9; rintro e w10 ⟨rfl, hb⟩
  have L10 := Lib.hid (L9.out.later hb)
  clear hb
  have h11 := free_any S P gp4 w10 L10.out.pl (L10.out.tz HN.out)
  rw [show ((gp4.n : Int) - (cntL gp4.n gp4.f : Int)) = 0 by decide +kernel] at h11
  go_wp2_with fail
  refine h11.mono ?_; clear h11; rintro e w12 ⟨rfl, hb⟩
  have L12 := Lib.hid (L10.out.later hb)
  clear hb
  have h13 := hz w12
  clear hz
  go_wp2_with fail
  refine h13.mono ?_; clear h13; rintro e w13 ⟨rfl, hw⟩
  obtain rfl : w12 = w13 := hw.symm
  go_wp2_with fail
  go_ret
  exact ⟨rfl, L12.out.bel⟩
end Go.Proofs.YtgkdpljlgdlekaaDoor

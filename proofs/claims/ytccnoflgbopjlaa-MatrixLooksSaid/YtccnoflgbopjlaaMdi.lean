/-
  Contracts of package matrix's Rank. Condition: the field is one that New made, or nil.
-/
import Derived.Test.YtccnoflgbopjlaaMdh
import Derived.Test.YtccnoflgbopjlaaMdf
namespace Go.Proofs.Ytccnoflgbopjlaa
open Go.RowKit Go.Proofs
set_option linter.unusedVariables false

theorem Fr.andNew {S S' : Nat → Prop} {a b c : World} (h : Fr S a b) (k : Fr S' b c) (hs : ∀ i, i < a.heap.size → S' i → S i) : Fr S a c :=
  ⟨k.os.trans h.os, k.tape.trans h.tape, k.output.trans h.output, Nat.le_trans h.size k.size, fun i hi hn => (k.block i (Nat.lt_of_lt_of_le hi h.size) fun hk => hn (hs i hi hk)).trans (h.block i hi hn)⟩
/-- A matrix in memory: its numbers read as l, and lie off T. -/
structure MxAt (w : World) (T : Nat) (A : Option Addr) (N cp : Nat) (l : List UInt8) : Prop where
  sl : Sl w 1 A N cp (cells l)
  off : Off T A N
theorem MxAt.fr {w w' : World} {T N cp : Nat} {A : Option Addr} {l : List UInt8} (h : MxAt w T A N cp l) (hf : Fr (Ft T) w w') : MxAt w' T A N cp l := ⟨h.sl.off hf h.off, h.off⟩
theorem MxAt.later {w w' : World} {T N cp : Nat} {A : Option Addr} {l : List UInt8} (h : MxAt w T A N cp l) (hb : Below w.heap.size w w') : MxAt w' T A N cp l := ⟨h.sl.below hb (Nat.le_refl _), h.off⟩
theorem Grow.at_ {w : World} {B T A k c} {l : List UInt8} (h : Grow w B A k c l) (hT : T < B) : MxAt w T A k c l :=
  ⟨h.own.sl, fun b o hn hA => by
    obtain ⟨_, hv⟩ := h.row hn
    rcases hv with ⟨_, h0⟩ | ⟨g, cap, cur, hv, hb, _⟩
    · omega
    · injection hv with hv _ _
      rw [hA] at hv
      injection hv with hv
      injection hv with hv _
      omega⟩

set_option maxRecDepth 20000 in
set_option maxHeartbeats 800000 in
theorem rank_nil (r c : Int) (A : Option Addr) (n cp : Nat) (w : World) :
    Calls Try.prog 25 #[.pointer none, .agg #[.int .i64 r, .int .i64 c, .slice A n cp]] w fun e w' => e = .returned (.int .i64 0) ∧ Below w.heap.size w w' := by
  go_enter Try.func25, Try.ntmps25
  go_wp2_with fail
  refine (mmadenil_any _).mono ?_; rintro e w1 ⟨rfl, rfl⟩
  go_wp2_with fail
  go_ret
  exact ⟨rfl, (Below.refl _ _).alloc (Nat.le_refl _) _⟩

set_option maxRecDepth 20000 in
set_option maxHeartbeats 800000 in
theorem rank_no (F T : Nat) (r c : Int) (A : Option Addr) (n cp : Nat) (hn : n ≤ maxLen) (hr : rightB r c n = false) (w : World) (h : Fld w F T) :
    Calls Try.prog 25 #[.pointer (some ⟨F, 0, none⟩), .agg #[.int .i64 r, .int .i64 c, .slice A n cp]] w (OnFld F T w (.int .i64 0)) := by
  have hT := h.ltT
  have hb0 : Below w.heap.size w (w.alloc (boxM r c A n cp)) := (Below.refl _ _).alloc (Nat.le_refl _) _
  have Hr := Lib.hid hr; clear hr
  go_enter Try.func25, Try.ntmps25
  go_wp2_with fail
  have hh := mmade_any F T (w.alloc (boxM r c A n cp)) (h.later hb0)
  refine hh.mono ?_; clear hh; rintro e w1 ⟨rfl, hf1, r1⟩
  have hx : w1.heap[w.heap.size]? = some (boxM r c A n cp) := r1.row_some (heap_alloc_new w _) (by show ¬ w.heap.size = T; omega)
  have c0 := boxM_0 hx
  have c1 := boxM_1 hx
  have c2 := boxM_2 hx
  have Hx := Lib.hid hx; clear hx
  go_wp2_with fail
  refine (right_any r c A n cp hn _).mono ?_; rintro e w2 ⟨rfl, hb2⟩
  rw [Hr.out]
  go_wp2_with fail
  go_ret
  exact ⟨rfl, hf1.later hb2, (Fr.of_below hb0).trans (r1.trans (Fr.of_below hb2))⟩

set_option maxRecDepth 20000 in
set_option maxHeartbeats 1600000 in
theorem rank_yes (F T R C : Nat) (A : Option Addr) (N cp : Nat) (l : List UInt8) (h1 : 1 ≤ R) (h2 : R ≤ 255) (h3 : 1 ≤ C) (h4 : C ≤ 255) (hN : N = R * C) (w : World) (h : Fld w F T) (hm : MxAt w T A N cp l) :
    Calls Try.prog 25 #[.pointer (some ⟨F, 0, none⟩), .agg #[.int .i64 (R : Int), .int .i64 (C : Int), .slice A N cp]] w
      fun e w' => ∃ L : Nat, e = .returned (.int .i64 (L : Int)) ∧ Rk R C (mx C l) L ∧ Fld1 w' F T ∧ Fr (Ft T) w w' := by
  have hT := h.ltT
  have hF := h.ltF
  have hlim := hm.sl.lim
  have hb0 : Below w.heap.size w (w.alloc (boxM (R : Int) (C : Int) A N cp)) := (Below.refl _ _).alloc (Nat.le_refl _) _
  have hr : rightB (R : Int) (C : Int) N = true := decide_eq_true ⟨by omega, by omega, by omega, by omega, by rw [hN]; simp⟩
  have Hr := Lib.hid hr; clear hr
  have HN := Lib.hid hN; clear hN
  have Hm := Lib.hid hm; clear hm
  go_enter Try.func25, Try.ntmps25
  go_wp2_with fail
  have hh := mmade_any F T (w.alloc (boxM (R : Int) (C : Int) A N cp)) (h.later hb0)
  refine hh.mono ?_; clear hh; rintro e w1 ⟨rfl, hf1, r1⟩
  have hx : w1.heap[w.heap.size]? = some (boxM (R : Int) (C : Int) A N cp) := r1.row_some (heap_alloc_new w _) (by show ¬ w.heap.size = T; omega)
  have c0 := boxM_0 hx
  have c1 := boxM_1 hx
  have c2 := boxM_2 hx
  have Hx := Lib.hid hx; clear hx
  have Hm1 := Lib.hid ((Hm.out.later hb0).fr r1)
  go_wp2_with fail
  refine (right_any (R : Int) (C : Int) A N cp hlim _).mono ?_; rintro e w2 ⟨rfl, hb2⟩
  rw [Hr.out]
  have hx2 : w2.heap[w.heap.size]? = some (boxM (R : Int) (C : Int) A N cp) := (hb2.block _ (block_lt Hx.out)).trans Hx.out
  have hf2 := hf1.later hb2
  have hr2 : Fr (Ft T) w w2 := (Fr.of_below hb0).trans (r1.trans (Fr.of_below hb2))
  have Hm2 := Lib.hid (Hm1.out.later hb2)
  have hs2 := block_lt hx2
  clear c0 c1 c2 Hx hf1 r1 hb2 Hm1 hb0
  have c0 := boxM_0 hx2
  have c1 := boxM_1 hx2
  have c2 := boxM_2 hx2
  have Hx2 := Lib.hid hx2; clear hx2
  have Hf2 := Lib.hid hf2; clear hf2
  have Hr2 := Lib.hid hr2; clear hr2
  have hmd := Lib.hid (Hm2.out.later (w' := w2.drew) (Below.drew (Below.refl _ _)))
  go_wp2_with fail
  go_region_with (first
    | (go_at_call 38; have hh := rowsOf_any R C A N cp l h1 h2 h3 h4 HN.out w2.drew hmd.out.sl; refine hh.mono ?_; clear hh; rintro e w3 ⟨g, rfl, hg3, hb3, hrow⟩; have c13 := (hb3.cell (p := ⟨w.heap.size, 1, none⟩) (by simpa using hs2)).trans (show w2.drew.cell? _ = _ from c1))
    | (go_at_call 43; have hg4 : w2.heap.size ≤ g := hg3; have hh := reduce_any F T g R C C h2 (by omega) (Nat.le_refl _) (mx C l) w3 (Hf2.out.later (w' := w3) (((Below.drew (Below.refl _ _))).trans hb3)) (hrow _ (fun b o hn hA hk => by
        have := hmd.out.off b o hn hA
        have := hmd.out.sl.lt (by decide) hn hA
        have : w2.drew.heap.size = w2.heap.size := rfl
        rcases hk with hk | hk <;> omega)).at_ (by omega) (by omega); refine hh.mono ?_; clear hh; rintro e w4 ⟨L, M, ld, rfl, hled, hrow4, hf4, hr4⟩))
  all_goals
    have hfin : Fr (Ft T) w w4 := (Hr2.out.trans (Fr.of_below ((Below.drew (Below.refl _ _)).trans hb3))).andNew hr4 (fun i hi hk => by
      have := Hr2.out.size
      rcases hk with hk | hk
      · exact hk
      · omega)
    have Hled := Lib.hid hled; clear hled hrow4 hrow hr4
    go_wp2_with fail
    go_ret
    exact ⟨L, rfl, Hled.out.rk (Nat.le_refl _), hf4, hfin⟩
end Go.Proofs.Ytccnoflgbopjlaa

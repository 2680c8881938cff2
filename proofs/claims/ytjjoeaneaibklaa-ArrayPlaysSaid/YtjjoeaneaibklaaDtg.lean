/-
  Layer 10's stands (the page's example), over what is known of package drive ('DrvK'); an array within a law's call ('La'); slices of slices whose places are named ('Nc'). No condition. (Written by gen_dtg.py.)
-/
import Derived.Test.YtjjoeaneaibklaaDtf
namespace Go.Proofs.Ytjjoeaneaibklaa
open Go.RowKit Go.Proofs
set_option linter.unusedVariables false

/-- A slice of slices at block b, whose values are named. -/
structure Nc {α : Type} (enc : List α → List Value) (w : World) (T : Nat → Prop) (b o : Nat) (f : Nat → Option Addr) (g : Nat → Nat) (rs : List (List α)) : Prop where
  cell : ∀ (i : Nat) (r : List α), rs[i]? = some r → w.cell? ⟨b, o + i, none⟩ = some (.slice (f i) r.length (g i))
  sl : ∀ (i : Nat) (r : List α), rs[i]? = some r → Sl w 1 (f i) r.length (g i) (enc r)
  far : ∀ (i : Nat) (r : List α), rs[i]? = some r → ∀ b o, 0 < r.length → f i = some ⟨b, o, none⟩ → T b
  own : T b
section
variable {α : Type} {enc : List α → List Value} {w w' : World} {T U : Nat → Prop} {A : Option Addr} {n c b o : Nat} {f : Nat → Option Addr} {g : Nat → Nat} {rs : List (List α)}
theorem Nc.fr (h : Nc enc w T b o f g rs) (hf : Fr U w w') (hT : ∀ b, T b → ¬ U b) : Nc enc w' T b o f g rs :=
  ⟨fun i r hi => hf.cell_some (h.cell i r hi) (hT b h.own), fun i r hi => (h.sl i r hi).fr hf (fun b o hn hA => hT b (h.far i r hi b o hn hA)), h.far, h.own⟩
theorem Nc.later (h : Nc enc w T b o f g rs) (hb : Below w.heap.size w w') : Nc enc w' T b o f g rs := h.fr (Fr.of_below hb : Fr (fun _ => False) _ _) (fun _ _ h => h)
theorem Ns.fix (h : Ns enc w T A n c rs) (h0 : 0 < n) : ∃ b o f g, A = some ⟨b, o, none⟩ ∧ Nc enc w T b o f g rs := by
  obtain ⟨vs, hs, hr⟩ := h.ex
  obtain ⟨b, o, e, hc⟩ := hs.at_ h0
  have key : ∀ (i : Nat) (r : List α), rs[i]? = some r → vs[i]? = some (.slice (match vs[i]? with | some (.slice A _ _) => A | _ => none) r.length (match vs[i]? with | some (.slice _ _ c) => c | _ => 0)) := by
    intro i r hi
    obtain ⟨A', c', h1, _⟩ := hr i r hi
    rw [h1]
  refine ⟨b, o, fun i => match vs[i]? with | some (.slice A _ _) => A | _ => none, fun i => match vs[i]? with | some (.slice _ _ c) => c | _ => 0, e, ⟨fun i r hi => hc i _ (key i r hi), fun i r hi => ?_, fun i r hi => ?_, h.blk b o h0 e⟩⟩
  · obtain ⟨A', c', h1, h2, h3⟩ := hr i r hi
    simp only [h1]
    exact h2
  · obtain ⟨A', c', h1, h2, h3⟩ := hr i r hi
    simp only [h1]
    exact h3
/-- A slice that a call made of values at hand. -/
theorem Ns.lit {TT : TypeId} {vs : List Value} (hl : vs.length = rs.length) (hm : rs.length ≤ maxLen) (hT : T w.heap.size) (hr : ∀ (i : Nat) (r : List α), rs[i]? = some r → ∃ A' c', vs[i]? = some (Value.slice A' r.length c') ∧ Sl w 1 A' r.length c' (enc r) ∧ ∀ b o, 0 < r.length → A' = some ⟨b, o, none⟩ → T b) :
    Ns enc (w.alloc (.cells vs.toArray TT)) T (some ⟨w.heap.size, 0, none⟩) rs.length rs.length rs := by
  have hs := Sl.made w vs.toArray TT 1 rs.length (by rw [List.size_toArray, hl, Nat.mul_one]) hm
  rw [List.toList_toArray] at hs
  refine ⟨⟨vs, hs, fun i r hi => ?_⟩, rfl, fun b o hn hA => ?_⟩
  · obtain ⟨A', c', h1, h2, h3⟩ := hr i r hi
    exact ⟨A', c', h1, h2.alloc _, h3⟩
  · injection hA with hA
    injection hA with hA _
    rw [← hA]
    exact hT
theorem Mine.lo {w : World} {B n : Nat} {e : TypeId} {A : Option Addr} {xs : List Value} (h : Mine w B e A n xs) : ∀ b o, 0 < n → A = some ⟨b, o, none⟩ → B ≤ b := by
  intro b o hn hA
  obtain ⟨g, cur, e1, hB, _⟩ := h hn
  rw [hA] at e1
  injection e1 with e1
  injection e1 with e1 _
  rw [e1]
  exact hB
end
/-- An array that a law's call made, which began in world w0. -/
structure La (Rep : World → (Nat → Prop) → Nat → Dv → Prop) (w0 w : World) (S : Nat → Prop) (A : Nat) (xs : List Dv) : Prop where
  ap : AP Rep w S A xs
  lo : ∀ b, S b → w0.heap.size ≤ b
  bel : Below w0.heap.size w0 w
section
variable {Rep : World → (Nat → Prop) → Nat → Dv → Prop} {w0 w w' : World} {S : Nat → Prop} {A : Nat} {xs ys : List Dv}
theorem La.later (DK : DrvK Rep) (h : La Rep w0 w S A xs) (hb : Below w.heap.size w w') : La Rep w0 w' S A xs := ⟨h.ap.later DK.lay hb, h.lo, h.bel.trans (hb.mono h.bel.size)⟩
theorem La.old (h : La Rep w0 w S A xs) {b : Nat} (hb : S b) : b < w.heap.size := h.ap.old hb
theorem La.mut (h : La Rep w0 w S A xs) (hm : MutA Rep S A ys w w') : ∃ S', La Rep w0 w' S' A ys ∧ Nxt S S' w w' := by
  obtain ⟨S', ha, hn⟩ := hm
  exact ⟨S', ⟨ha, fun b hb => (hn.2 b hb).elim (h.lo b) (fun q => by have := h.bel.size; omega), h.bel.trans (hn.1.below h.bel.size h.lo)⟩, hn⟩
theorem La.fr (DK : DrvK Rep) {U : Nat → Prop} (h : La Rep w0 w S A xs) (hf : Fr U w w') (hU : ∀ b, S b → ¬ U b) (hb : Below w0.heap.size w0 w') : La Rep w0 w' S A xs := ⟨h.ap.fr DK.lay hf hU, h.lo, hb⟩
theorem La.of_new (hb0 : Below w0.heap.size w0 w) (ha : AP Rep w' S A xs) (hb : Below w.heap.size w w') (hS : ∀ b, S b → w.heap.size ≤ b) : La Rep w0 w' S A xs := ⟨ha, fun b hb' => by have := hS b hb'; have := hb0.size; omega, hb0.trans (hb.mono hb0.size)⟩
theorem Below.out {w w' : World} {B : Nat} (h : Below B w w') (hB : B ≤ w.heap.size) : B ≤ w'.heap.size := by have := h.size; omega
theorem full10 (z : Int) (c : UInt8) (hz : z = (c.toNat : Int)) (w : World) : Calls Try.prog 22 #[.int .u8 z] w fun e w' => ∃ A c', e = .returned (.slice A 64 c') ∧ Sl w' 1 A 64 c' (cells (full c)) ∧ Below w.heap.size w w' ∧ ∀ b o, 0 < (full c).length → A = some ⟨b, o, none⟩ → w.heap.size ≤ b := by
  subst hz
  refine (full_any c w).mono ?_
  rintro e w' ⟨A, n, c', rfl, hs, hb, hm⟩
  obtain rfl : n = 64 := by have := hs.len; rw [cells_length, full_length] at this; omega
  exact ⟨A, c', rfl, hs, hb, fun b o _ hA => hm.lo b o (by decide) hA⟩
def st0 : List Dv := List.replicate 3 (Dv.new 2)
def st1 : List Dv := onD st0 1 (fun x => x.fail)
def stR : List (List UInt8) := [full 1, full 2, full 3]
def st2 : List Dv := putS st1 stR 1 3
theorem wl_of {xs : List Dv} {k : Nat} (h : xs.all (fun x => decide (x.wait.length ≤ k)) = true) : Wl k xs := fun i x hx => by
  have := List.all_eq_true.1 h x (List.mem_of_getElem? hx)
  simpa using this
set_option maxRecDepth 100000 in
set_option maxHeartbeats 6400000 in
theorem stands10_any (DK : DrvK Rep) (w : World) : Calls Try.prog 7 #[] w (SaysTrue w) := by
  go_enter Try.func7, Try.ntmps7
  go_wp2_with fail
  refine (arnew_yes DK 3 2 w (by omega) (by omega) (by omega) (by omega)).mono ?_; rintro e w1 ⟨A, S1, rfl, ha, hb, hS⟩
  have L1 := Lib.hid (show La Rep w w1 S1 A st0 from La.of_new (Below.refl _ _) ha hb hS)
  clear ha hb hS
  go_wp2_with fail
  refine (arfail_any DK L1.out.ap (by decide) 1).mono ?_; rintro e w2 ⟨he, hm⟩
  rw [show tellD st0 1 (fun _ => (0 : Int)) 2 = 0 from by decide] at he
  subst he
  obtain ⟨S2, hL, _⟩ := L1.out.mut hm
  have L2 := Lib.hid (show La Rep w w2 S2 A st1 from hL)
  clear hm hL L1
  go_wp2_with fail
  refine (full10 1 1 rfl _).mono ?_; rintro e w3 ⟨A3, c3, rfl, hs3, hb3, hl3⟩
  have B3 := Lib.hid hb3
  have R3 := Lib.hid hs3
  have O3 := Lib.hid hl3
  clear hs3 hb3 hl3
  go_wp2_with fail
  refine (full10 2 2 rfl _).mono ?_; rintro e w4 ⟨A4, c4, rfl, hs4, hb4, hl4⟩
  have B4 := Lib.hid (B3.out.trans (hb4.mono B3.out.size))
  have R3 := Lib.hid (R3.out.below hb4 (Nat.le_refl _))
  have R4 := Lib.hid hs4
  have O4 := Lib.hid (show ∀ b o, 0 < (full 2).length → A4 = some ⟨b, o, none⟩ → w2.heap.size ≤ b from fun b o hn hA => by have := hl4 b o hn hA; have := B3.out.size; omega)
  clear hs4 hb4 hl4
  go_wp2_with fail
  refine (full10 3 3 rfl _).mono ?_; rintro e w5 ⟨A5, c5, rfl, hs5, hb5, hl5⟩
  have B5 := Lib.hid (B4.out.trans (hb5.mono B4.out.size))
  have R3 := Lib.hid (R3.out.below hb5 (Nat.le_refl _))
  have R4 := Lib.hid (R4.out.below hb5 (Nat.le_refl _))
  have R5 := Lib.hid hs5
  have O5 := Lib.hid (show ∀ b o, 0 < (full 3).length → A5 = some ⟨b, o, none⟩ → w2.heap.size ≤ b from fun b o hn hA => by have := hl5 b o hn hA; have := B4.out.size; omega)
  clear hs5 hb5 hl5
  go_wp2_with fail
  have hN : Ns cells (w5.alloc (.cells #[.slice A3 64 c3, .slice A4 64 c4, .slice A5 64 c5] 40)) (fun b => w2.heap.size ≤ b) (some ⟨w5.heap.size, 0, none⟩) 3 3 stR := by
    refine Ns.lit (vs := [.slice A3 64 c3, .slice A4 64 c4, .slice A5 64 c5]) (rs := stR) rfl (by decide) B5.out.size (fun i r hi => ?_)
    rcases i with _ | _ | _ | i
    · obtain rfl : full 1 = r := by simpa [stR] using hi
      exact ⟨A3, c3, rfl, R3.out, O3.out⟩
    · obtain rfl : full 2 = r := by simpa [stR] using hi
      exact ⟨A4, c4, rfl, R4.out, O4.out⟩
    · obtain rfl : full 3 = r := by simpa [stR] using hi
      exact ⟨A5, c5, rfl, R5.out, O5.out⟩
    · simp [stR] at hi
  have hb6 : Below w2.heap.size w2 (w5.alloc (.cells #[.slice A3 64 c3, .slice A4 64 c4, .slice A5 64 c5] 40)) := B5.out.alloc B5.out.size _
  obtain ⟨w6, hw6⟩ : ∃ v, v = w5.alloc (.cells #[.slice A3 64 c3, .slice A4 64 c4, .slice A5 64 c5] 40) := ⟨_, rfl⟩
  rw [← hw6] at hN hb6 ⊢
  have L6 := Lib.hid (L2.out.later DK hb6)
  have hO : ∀ b, w2.heap.size ≤ b → ¬ S2 b := fun b hb hq => by have := L2.out.old hq; omega
  have hP := arputrow_any DK L6.out.ap (wl_of (by decide)) (by decide) 1 (by omega) (by omega) hN hO
  rw [show min st1.length 3 = 3 from by decide, show putN st1 stR 1 3 = 2 from by decide] at hP
  clear hw6 hN hb6 hO B3 B4 B5 R3 R4 R5 O3 O4 O5
  refine hP.mono ?_; clear hP; rintro e w7 ⟨rfl, hm⟩
  obtain ⟨S7, hL, _⟩ := L6.out.mut hm
  have L7 := Lib.hid (show La Rep w w7 S7 A st2 from hL)
  clear hm hL L2 L6
  go_wp2_with fail
  have hR := arrow_any DK L7.out.ap 1 (by omega) (by omega) (wl_of (by decide)) (by decide)
  rw [show rowL st2 1 = [full 1, [], full 3] from by decide] at hR
  refine hR.mono ?_; clear hR; rintro e w8 ⟨A8, c8, rfl, hns, hb8⟩
  obtain ⟨b8, o8, f8, g8, rfl, hnc⟩ := hns.fix (by decide)
  have L8 := Lib.hid ((L7.out.later DK hb8).later DK (Below.drew (Below.refl _ _)))
  have NC := Lib.hid (show Nc cells w8.drew _ b8 o8 f8 g8 _ from hnc.later (Below.drew (Below.refl _ _)))
  have NT := Lib.hid (show ∀ b, w7.heap.size ≤ b → ¬ S7 b from fun b hb hq => by have := L7.out.old hq; omega)
  clear hns hb8 hnc L7
  go_wp2_with fail
  refine wp_region_held_drew (S := fun w' => Fr (S7) w8.drew w') (by kernel_rfl) (Fr.refl _ _) (fun hHeld => ?_)
  clear hHeld
  refine wpAnyH_take (i := 0) (oi := ⟨some 16, _, _, _, _, _⟩) (v := ?vs0) rfl (by kernel_rfl) (by kernel_rfl) (by kernel_rfl) (fun _ _ _ h => h) (Or.inl ⟨by rfl, ?ys0⟩) (Fr.refl _ _) ?rs0
  case ys0 =>
    intro wq hSw
    (try dsimp only at hSw)
    first | (go_simp; done) | (go_simp; with_reducible rfl)
  try simp only [Act.put, List.setIfInBounds_toArray, List.set_cons_zero, List.set_cons_succ]
  refine wpAnyH_take (i := 1) (oi := ⟨some 17, _, _, _, _, _⟩) (v := ?vs1) rfl (by kernel_rfl) (by kernel_rfl) (by kernel_rfl) (fun _ _ _ h => h) (Or.inl ⟨by rfl, ?ys1⟩) (Fr.refl _ _) ?rs1
  case ys1 =>
    intro wq hSw
    (try dsimp only at hSw)
    first | (go_simp; done) | (go_simp; with_reducible rfl)
  try simp only [Act.put, List.setIfInBounds_toArray, List.set_cons_zero, List.set_cons_succ]
  refine wpAnyH_take (i := 2) (oi := ⟨some 18, _, _, _, _, _⟩) (v := ?vs2) rfl (by kernel_rfl) (by kernel_rfl) (by kernel_rfl) (fun _ _ _ h => h) (Or.inl ⟨by rfl, ?ys2⟩) (Fr.refl _ _) ?rs2
  case ys2 =>
    intro wq hSw
    (try dsimp only at hSw)
    first | (go_simp; done) | (go_simp; with_reducible rfl)
  try simp only [Act.put, List.setIfInBounds_toArray, List.set_cons_zero, List.set_cons_succ]
  refine wpAnyH_take (i := 3) (oi := ⟨some 19, _, _, _, _, _⟩) (v := ?vs3) rfl (by kernel_rfl) (by kernel_rfl) (by kernel_rfl) (fun _ _ _ h => h) (Or.inl ⟨by rfl, ?ys3⟩) (Fr.refl _ _) ?rs3
  case ys3 =>
    intro wq hSw
    (try dsimp only at hSw)
    first | (go_simp; done) | (go_simp; with_reducible rfl)
  try simp only [Act.put, List.setIfInBounds_toArray, List.set_cons_zero, List.set_cons_succ]
  refine wpAnyH_take (i := 4) (oi := ⟨some 20, _, _, _, _, _⟩) (v := ?vs4) rfl (by kernel_rfl) (by kernel_rfl) (by kernel_rfl) (fun _ _ _ h => h) (Or.inl ⟨by rfl, ?ys4⟩) (Fr.refl _ _) ?rs4
  case ys4 =>
    intro wq hSw
    (try dsimp only at hSw)
    first | (go_simp; done) | (go_simp; with_reducible rfl)
  try simp only [Act.put, List.setIfInBounds_toArray, List.set_cons_zero, List.set_cons_succ]
  refine wpAnyH_take (i := 5) (oi := ⟨some 21, _, _, _, _, _⟩) (v := ?vs5) rfl (by kernel_rfl) (by kernel_rfl) (by kernel_rfl) (fun _ _ _ h => h) (Or.inl ⟨by rfl, ?ys5⟩) (Fr.refl _ _) ?rs5
  case ys5 =>
    intro wq hSw
    (try dsimp only at hSw)
    first | (go_simp; done) | (go_simp; with_reducible rfl)
  try simp only [Act.put, List.setIfInBounds_toArray, List.set_cons_zero, List.set_cons_succ]
  refine wpAnyH_take (i := 6) (oi := ⟨some 22, _, _, _, _, _⟩) (v := ?vs6) rfl (by kernel_rfl) (by kernel_rfl) (by kernel_rfl) (fun _ _ _ h => h) (Or.inl ⟨by rfl, ?ys6⟩) (Fr.refl _ _) ?rs6
  case ys6 =>
    intro wq hSw
    (try dsimp only at hSw)
    first | (go_simp; done) | (go_simp; with_reducible rfl)
  try simp only [Act.put, List.setIfInBounds_toArray, List.set_cons_zero, List.set_cons_succ]
  refine wpAnyH_take (i := 7) (oi := ⟨some 23, _, _, _, _, _⟩) (v := ?vs7) rfl (by kernel_rfl) (by kernel_rfl) (by kernel_rfl) (fun _ _ _ h => h) (Or.inl ⟨by rfl, ?ys7⟩) (Fr.refl _ _) ?rs7
  case ys7 =>
    intro wq hSw
    (try dsimp only at hSw)
    first | (go_simp; done) | (go_simp; with_reducible rfl)
  try simp only [Act.put, List.setIfInBounds_toArray, List.set_cons_zero, List.set_cons_succ]
  refine wpAnyH_ready (rs := [8]) (by kernel_rfl) (by simp) ?_
  refine AllReadyH.cons (o := ⟨some 24, _, _, _, _, _⟩) rfl (fun K hK => ?_) AllReadyH.nil
  go_simp
  have hh := aralive_any DK L8.out.ap (by decide)
  rw [show aliveN st2 st2.length = 2 from by decide] at hh
  refine hh.mono ?_; clear hh; rintro e w11 ⟨rfl, hb11⟩
  have L8 := Lib.hid (L8.out.later DK hb11)
  have NC := Lib.hid (NC.out.later hb11)
  have hfr := Fr.of_below (S := S7) hb11
  clear hb11
  go_wp2_with fail
  refine hK.out _ _ hfr (fun hHeld => ?_)
  clear hK K hHeld
  try simp only [Act.put, List.setIfInBounds_toArray, List.set_cons_zero, List.set_cons_succ]
  refine wpAnyH_re (S' := fun w' => Fr (S7) w11 w') (fun w' h => hfr.trans h) ?_
  clear hfr
  refine wpAnyH_take (i := 9) (oi := ⟨some 25, _, _, _, _, _⟩) (v := ?vs9) rfl (by kernel_rfl) (by kernel_rfl) (by kernel_rfl) (fun _ _ _ h => h) (Or.inl ⟨by rfl, ?ys9⟩) (Fr.refl _ _) ?rs9
  case ys9 =>
    intro wq hSw
    (try dsimp only at hSw)
    first | (go_simp; done) | (go_simp; with_reducible rfl)
  try simp only [Act.put, List.setIfInBounds_toArray, List.set_cons_zero, List.set_cons_succ]
  refine wpAnyH_take (i := 10) (oi := ⟨some 26, _, _, _, _, _⟩) (v := ?vs10) rfl (by kernel_rfl) (by kernel_rfl) (by kernel_rfl) (fun _ _ _ h => h) (Or.inl ⟨by rfl, ?ys10⟩) (Fr.refl _ _) ?rs10
  case ys10 =>
    intro wq hSw
    (try dsimp only at hSw)
    first | (go_simp; done) | (go_simp; with_reducible rfl)
  try simp only [Act.put, List.setIfInBounds_toArray, List.set_cons_zero, List.set_cons_succ]
  refine wpAnyH_take (i := 11) (oi := ⟨some 27, _, _, _, _, _⟩) (v := ?vs11) rfl (by kernel_rfl) (by kernel_rfl) (by kernel_rfl) (fun _ _ _ h => h) (Or.inl ⟨by rfl, ?ys11⟩) (Fr.refl _ _) ?rs11
  case ys11 =>
    intro wq hSw
    (try dsimp only at hSw)
    first | (go_simp; done) | (go_simp; with_reducible rfl)
  try simp only [Act.put, List.setIfInBounds_toArray, List.set_cons_zero, List.set_cons_succ]
  refine wpAnyH_take (i := 12) (oi := ⟨some 28, _, _, _, _, _⟩) (v := ?vs12) rfl (by kernel_rfl) (by kernel_rfl) (by kernel_rfl) (fun _ _ _ h => h) (Or.inl ⟨by rfl, ?ys12⟩) (Fr.refl _ _) ?rs12
  case ys12 =>
    intro wq hSw
    (try dsimp only at hSw)
    first | (go_simp; done) | (go_simp; with_reducible rfl)
  try simp only [Act.put, List.setIfInBounds_toArray, List.set_cons_zero, List.set_cons_succ]
  refine wpAnyH_ready (rs := [13]) (by kernel_rfl) (by simp) ?_
  refine AllReadyH.cons (o := ⟨some 29, _, _, _, _, _⟩) rfl (fun K hK => ?_) AllReadyH.nil
  go_simp
  have hh := arN_any L8.out.ap
  rw [show st2.length = 3 from by decide] at hh
  refine hh.mono ?_; clear hh; rintro e w12 ⟨rfl, hw12⟩
  obtain rfl : w11 = w12 := hw12.symm
  have hb12 := Below.refl w11.heap.size w11
  have L8 := Lib.hid (L8.out.later DK hb12)
  have NC := Lib.hid (NC.out.later hb12)
  have hfr := Fr.of_below (S := S7) hb12
  clear hb12
  go_wp2_with fail
  refine hK.out _ _ hfr (fun hHeld => ?_)
  clear hK K hHeld
  try simp only [Act.put, List.setIfInBounds_toArray, List.set_cons_zero, List.set_cons_succ]
  refine wpAnyH_re (S' := fun w' => Fr (S7) w11 w') (fun w' h => hfr.trans h) ?_
  clear hfr
  refine wpAnyH_take (i := 14) (oi := ⟨some 30, _, _, _, _, _⟩) (v := ?vs14) rfl (by kernel_rfl) (by kernel_rfl) (by kernel_rfl) (fun _ _ _ h => h) (Or.inl ⟨by rfl, ?ys14⟩) (Fr.refl _ _) ?rs14
  case ys14 =>
    intro wq hSw
    (try dsimp only at hSw)
    first | (go_simp; done) | (go_simp; with_reducible rfl)
  try simp only [Act.put, List.setIfInBounds_toArray, List.set_cons_zero, List.set_cons_succ]
  refine wpAnyH_take (i := 15) (oi := ⟨some 31, _, _, _, _, _⟩) (v := ?vs15) rfl (by kernel_rfl) (by kernel_rfl) (by kernel_rfl) (fun _ _ _ h => h) (Or.inl ⟨by rfl, ?ys15⟩) (Fr.refl _ _) ?rs15
  case ys15 =>
    intro wq hSw
    (try dsimp only at hSw)
    first | (go_simp; done) | (go_simp; with_reducible rfl)
  try simp only [Act.put, List.setIfInBounds_toArray, List.set_cons_zero, List.set_cons_succ]
  refine wpAnyH_take (i := 16) (oi := ⟨some 32, _, _, _, _, _⟩) (v := ?vs16) rfl (by kernel_rfl) (by kernel_rfl) (by kernel_rfl) (fun _ _ _ h => h) (Or.inl ⟨by rfl, ?ys16⟩) (Fr.refl _ _) ?rs16
  case ys16 =>
    intro wq hSw
    (try dsimp only at hSw)
    first | (go_simp; done) | (go_simp; with_reducible rfl)
  try simp only [Act.put, List.setIfInBounds_toArray, List.set_cons_zero, List.set_cons_succ]
  refine wpAnyH_take (i := 17) (oi := ⟨some 33, _, _, _, _, _⟩) (v := ?vs17) rfl (by kernel_rfl) (by kernel_rfl) (by kernel_rfl) (fun _ _ _ h => h) (Or.inl ⟨by rfl, ?ys17⟩) (Fr.refl _ _) ?rs17
  case ys17 =>
    intro wq hSw
    (try dsimp only at hSw)
    first | (go_simp; done) | (go_simp; with_reducible rfl)
  try simp only [Act.put, List.setIfInBounds_toArray, List.set_cons_zero, List.set_cons_succ]
  refine wpAnyH_ready (rs := [18]) (by kernel_rfl) (by simp) ?_
  refine AllReadyH.cons (o := ⟨some 34, _, _, _, _, _⟩) rfl (fun K hK => ?_) AllReadyH.nil
  go_simp
  have hh := arsectors_any DK L8.out.ap (x := (Dv.new 2).write 1 (full 1)) (by rfl)
  rw [show ((Dv.new 2).write 1 (full 1)).n = 2 from by decide] at hh
  refine hh.mono ?_; clear hh; rintro e w13 ⟨rfl, hb13⟩
  have L8 := Lib.hid (L8.out.later DK hb13)
  have NC := Lib.hid (NC.out.later hb13)
  have hfr := Fr.of_below (S := S7) hb13
  clear hb13
  go_wp2_with fail
  refine hK.out _ _ hfr (fun hHeld => ?_)
  clear hK K hHeld
  try simp only [Act.put, List.setIfInBounds_toArray, List.set_cons_zero, List.set_cons_succ]
  refine wpAnyH_re (S' := fun w' => Fr (S7) w13 w') (fun w' h => hfr.trans h) ?_
  clear hfr
  refine wpAnyH_take (i := 19) (oi := ⟨some 35, _, _, _, _, _⟩) (v := ?vs19) rfl (by kernel_rfl) (by kernel_rfl) (by kernel_rfl) (fun _ _ _ h => h) (Or.inl ⟨by rfl, ?ys19⟩) (Fr.refl _ _) ?rs19
  case ys19 =>
    intro wq hSw
    (try dsimp only at hSw)
    first | (go_simp; done) | (go_simp; with_reducible rfl)
  try simp only [Act.put, List.setIfInBounds_toArray, List.set_cons_zero, List.set_cons_succ]
  refine wpAnyH_take (i := 20) (oi := ⟨some 36, _, _, _, _, _⟩) (v := ?vs20) rfl (by kernel_rfl) (by kernel_rfl) (by kernel_rfl) (fun _ _ _ h => h) (Or.inl ⟨by rfl, ?ys20⟩) (Fr.refl _ _) ?rs20
  case ys20 =>
    intro wq hSw
    (try dsimp only at hSw)
    first | (go_simp; done) | (go_simp; with_reducible rfl)
  try simp only [Act.put, List.setIfInBounds_toArray, List.set_cons_zero, List.set_cons_succ]
  refine wpAnyH_take (i := 21) (oi := ⟨some 37, _, _, _, _, _⟩) (v := ?vs21) rfl (by kernel_rfl) (by kernel_rfl) (by kernel_rfl) (fun _ _ _ h => h) (Or.inl ⟨by rfl, ?ys21⟩) (Fr.refl _ _) ?rs21
  case ys21 =>
    intro wq hSw
    (try dsimp only at hSw)
    first | (go_simp; done) | (go_simp; with_reducible rfl)
  try simp only [Act.put, List.setIfInBounds_toArray, List.set_cons_zero, List.set_cons_succ]
  refine wpAnyH_take (i := 22) (oi := ⟨some 38, _, _, _, _, _⟩) (v := ?vs22) rfl (by kernel_rfl) (by kernel_rfl) (by kernel_rfl) (fun _ _ _ h => h) (Or.inl ⟨by rfl, ?ys22⟩) (Fr.refl _ _) ?rs22
  case ys22 =>
    intro wq hSw
    (try dsimp only at hSw)
    first | (go_simp; done) | (go_simp; with_reducible rfl)
  try simp only [Act.put, List.setIfInBounds_toArray, List.set_cons_zero, List.set_cons_succ]
  refine wpAnyH_take (i := 23) (oi := ⟨some 39, _, _, _, _, _⟩) (v := ?vs23) rfl (by kernel_rfl) (by kernel_rfl) (by kernel_rfl) (fun _ _ _ h => h) (Or.inl ⟨by rfl, ?ys23⟩) (Fr.refl _ _) ?rs23
  case ys23 =>
    intro wq hSw
    (try dsimp only at hSw)
    first | (go_simp; done) | (go_simp; with_reducible rfl)
  try simp only [Act.put, List.setIfInBounds_toArray, List.set_cons_zero, List.set_cons_succ]
  refine wpAnyH_take (i := 24) (oi := ⟨some 40, _, _, _, _, _⟩) (v := ?vs24) rfl (by kernel_rfl) (by kernel_rfl) (by kernel_rfl) (fun _ _ _ h => h) (Or.inl ⟨by rfl, ?ys24⟩) (Fr.refl _ _) ?rs24
  case ys24 =>
    intro wq hSw
    (try dsimp only at hSw)
    first | (go_simp; done) | (go_simp; with_reducible rfl)
  try simp only [Act.put, List.setIfInBounds_toArray, List.set_cons_zero, List.set_cons_succ]
  refine wpAnyH_take (i := 25) (oi := ⟨some 41, _, _, _, _, _⟩) (v := ?vs25) rfl (by kernel_rfl) (by kernel_rfl) (by kernel_rfl) (fun _ _ _ h => h) (Or.inl ⟨by rfl, ?ys25⟩) (Fr.refl _ _) ?rs25
  case ys25 =>
    intro wq hSw
    (try dsimp only at hSw)
    first | (go_simp; done) | (go_simp; with_reducible rfl)
  try simp only [Act.put, List.setIfInBounds_toArray, List.set_cons_zero, List.set_cons_succ]
  refine wpAnyH_take (i := 26) (oi := ⟨some 42, _, _, _, _, _⟩) (v := ?vs26) rfl (by kernel_rfl) (by kernel_rfl) (by kernel_rfl) (fun _ _ _ h => h) (Or.inl ⟨by rfl, ?ys26⟩) (Fr.refl _ _) ?rs26
  case ys26 =>
    intro wq hSw
    (try dsimp only at hSw)
    first | (go_simp; done) | (go_simp; with_reducible rfl)
  try simp only [Act.put, List.setIfInBounds_toArray, List.set_cons_zero, List.set_cons_succ]
  refine wpAnyH_take (i := 27) (oi := ⟨some 43, _, _, _, _, _⟩) (v := ?vs27) rfl (by kernel_rfl) (by kernel_rfl) (by kernel_rfl) (fun _ _ _ h => h) (Or.inl ⟨by rfl, ?ys27⟩) (Fr.refl _ _) ?rs27
  case ys27 =>
    intro wq hSw
    (try dsimp only at hSw)
    first | (go_simp; done) | (go_simp; with_reducible rfl)
  try simp only [Act.put, List.setIfInBounds_toArray, List.set_cons_zero, List.set_cons_succ]
  refine wpAnyH_take (i := 28) (oi := ⟨some 44, _, _, _, _, _⟩) (v := ?vs28) rfl (by kernel_rfl) (by kernel_rfl) (by kernel_rfl) (fun _ _ _ h => h) (Or.inl ⟨by rfl, ?ys28⟩) (Fr.refl _ _) ?rs28
  case ys28 =>
    intro wq hSw
    (try dsimp only at hSw)
    first | (go_simp; done) | (go_simp; with_reducible rfl)
  try simp only [Act.put, List.setIfInBounds_toArray, List.set_cons_zero, List.set_cons_succ]
  refine wpAnyH_take (i := 29) (oi := ⟨some 45, _, _, _, _, _⟩) (v := ?vs29) rfl (by kernel_rfl) (by kernel_rfl) (by kernel_rfl) (fun _ _ _ h => h) (Or.inl ⟨by rfl, ?ys29⟩) (Fr.refl _ _) ?rs29
  case ys29 =>
    intro wq hSw
    (try dsimp only at hSw)
    have hq := (NC.out.fr hSw NT.out).cell 0 (full 1) rfl
    simp only [Nat.add_zero] at hq
    first | (go_simp; done) | (go_simp; with_reducible rfl)
  try simp only [Act.put, List.setIfInBounds_toArray, List.set_cons_zero, List.set_cons_succ]
  refine wpAnyH_take (i := 30) (oi := ⟨some 46, _, _, _, _, _⟩) (v := ?vs30) rfl (by kernel_rfl) (by kernel_rfl) (by kernel_rfl) (fun _ _ _ h => h) (Or.inl ⟨by rfl, ?ys30⟩) (Fr.refl _ _) ?rs30
  case ys30 =>
    intro wq hSw
    (try dsimp only at hSw)
    have kk := str_of ((NC.out.fr hSw NT.out).sl 0 (full 1) rfl)
    first | (go_simp; done) | (go_simp; with_reducible rfl)
  try simp only [Act.put, List.setIfInBounds_toArray, List.set_cons_zero, List.set_cons_succ]
  refine wpAnyH_ready (rs := [31]) (by kernel_rfl) (by simp) ?_
  refine AllReadyH.cons (o := ⟨some 47, _, _, _, _, _⟩) rfl (fun K hK => ?_) AllReadyH.nil
  go_simp
  refine (full10 1 1 rfl _).mono ?_; rintro e w14 ⟨A14, c14, rfl, hs14, hb14, hl14⟩
  have S14 := Lib.hid hs14
  have N14 := Lib.hid (show ∀ b o, A14 = some ⟨b, o, none⟩ → ¬ S7 b from fun b o hA hq => by have := hl14 b o (by decide) hA; have := L8.out.old hq; omega)
  clear hs14 hl14
  have L8 := Lib.hid (L8.out.later DK hb14)
  have NC := Lib.hid (NC.out.later hb14)
  have hfr := Fr.of_below (S := S7) hb14
  clear hb14
  go_wp2_with fail
  refine hK.out _ _ hfr (fun hHeld => ?_)
  clear hK K hHeld
  try simp only [Act.put, List.setIfInBounds_toArray, List.set_cons_zero, List.set_cons_succ]
  refine wpAnyH_re (S' := fun w' => Fr (S7) w14 w') (fun w' h => hfr.trans h) ?_
  clear hfr
  refine wpAnyH_take (i := 32) (oi := ⟨some 48, _, _, _, _, _⟩) (v := ?vs32) rfl (by kernel_rfl) (by kernel_rfl) (by kernel_rfl) (fun _ _ _ h => h) (Or.inl ⟨by rfl, ?ys32⟩) (Fr.refl _ _) ?rs32
  case ys32 =>
    intro wq hSw
    (try dsimp only at hSw)
    have kk := str_of (S14.out.fr hSw (fun b o hn hA hq => N14.out b o hA hq))
    first | (go_simp; done) | (go_simp; with_reducible rfl)
  try simp only [Act.put, List.setIfInBounds_toArray, List.set_cons_zero, List.set_cons_succ]
  refine wpAnyH_take (i := 33) (oi := ⟨some 49, _, _, _, _, _⟩) (v := ?vs33) rfl (by kernel_rfl) (by kernel_rfl) (by kernel_rfl) (fun _ _ _ h => h) (Or.inl ⟨by rfl, ?ys33⟩) (Fr.refl _ _) ?rs33
  case ys33 =>
    intro wq hSw
    (try dsimp only at hSw)
    first | (go_simp; done) | (go_simp; with_reducible rfl)
  try simp only [Act.put, List.setIfInBounds_toArray, List.set_cons_zero, List.set_cons_succ]
  refine wpAnyH_take (i := 34) (oi := ⟨some 50, _, _, _, _, _⟩) (v := ?vs34) rfl (by kernel_rfl) (by kernel_rfl) (by kernel_rfl) (fun _ _ _ h => h) (Or.inl ⟨by rfl, ?ys34⟩) (Fr.refl _ _) ?rs34
  case ys34 =>
    intro wq hSw
    (try dsimp only at hSw)
    first | (go_simp; done) | (go_simp; with_reducible rfl)
  try simp only [Act.put, List.setIfInBounds_toArray, List.set_cons_zero, List.set_cons_succ]
  refine wpAnyH_take (i := 35) (oi := ⟨some 51, _, _, _, _, _⟩) (v := ?vs35) rfl (by kernel_rfl) (by kernel_rfl) (by kernel_rfl) (fun _ _ _ h => h) (Or.inl ⟨by rfl, ?ys35⟩) (Fr.refl _ _) ?rs35
  case ys35 =>
    intro wq hSw
    (try dsimp only at hSw)
    first | (go_simp; done) | (go_simp; with_reducible rfl)
  try simp only [Act.put, List.setIfInBounds_toArray, List.set_cons_zero, List.set_cons_succ]
  refine wpAnyH_take (i := 36) (oi := ⟨some 52, _, _, _, _, _⟩) (v := ?vs36) rfl (by kernel_rfl) (by kernel_rfl) (by kernel_rfl) (fun _ _ _ h => h) (Or.inl ⟨by rfl, ?ys36⟩) (Fr.refl _ _) ?rs36
  case ys36 =>
    intro wq hSw
    (try dsimp only at hSw)
    first | (go_simp; done) | (go_simp; with_reducible rfl)
  try simp only [Act.put, List.setIfInBounds_toArray, List.set_cons_zero, List.set_cons_succ]
  refine wpAnyH_take (i := 37) (oi := ⟨some 53, _, _, _, _, _⟩) (v := ?vs37) rfl (by kernel_rfl) (by kernel_rfl) (by kernel_rfl) (fun _ _ _ h => h) (Or.inl ⟨by rfl, ?ys37⟩) (Fr.refl _ _) ?rs37
  case ys37 =>
    intro wq hSw
    (try dsimp only at hSw)
    first | (go_simp; done) | (go_simp; with_reducible rfl)
  try simp only [Act.put, List.setIfInBounds_toArray, List.set_cons_zero, List.set_cons_succ]
  refine wpAnyH_take (i := 38) (oi := ⟨some 54, _, _, _, _, _⟩) (v := ?vs38) rfl (by kernel_rfl) (by kernel_rfl) (by kernel_rfl) (fun _ _ _ h => h) (Or.inl ⟨by rfl, ?ys38⟩) (Fr.refl _ _) ?rs38
  case ys38 =>
    intro wq hSw
    (try dsimp only at hSw)
    have hq := (NC.out.fr hSw NT.out).cell 1 ([]) rfl
    first | (go_simp; done) | (go_simp; with_reducible rfl)
  try simp only [Act.put, List.setIfInBounds_toArray, List.set_cons_zero, List.set_cons_succ]
  refine wpAnyH_take (i := 39) (oi := ⟨some 55, _, _, _, _, _⟩) (v := ?vs39) rfl (by kernel_rfl) (by kernel_rfl) (by kernel_rfl) (fun _ _ _ h => h) (Or.inl ⟨by rfl, ?ys39⟩) (Fr.refl _ _) ?rs39
  case ys39 =>
    intro wq hSw
    (try dsimp only at hSw)
    first | (go_simp; done) | (go_simp; with_reducible rfl)
  try simp only [Act.put, List.setIfInBounds_toArray, List.set_cons_zero, List.set_cons_succ]
  refine wpAnyH_take (i := 40) (oi := ⟨some 56, _, _, _, _, _⟩) (v := ?vs40) rfl (by kernel_rfl) (by kernel_rfl) (by kernel_rfl) (fun _ _ _ h => h) (Or.inl ⟨by rfl, ?ys40⟩) (Fr.refl _ _) ?rs40
  case ys40 =>
    intro wq hSw
    (try dsimp only at hSw)
    first | (go_simp; done) | (go_simp; with_reducible rfl)
  try simp only [Act.put, List.setIfInBounds_toArray, List.set_cons_zero, List.set_cons_succ]
  refine wpAnyH_take (i := 41) (oi := ⟨some 57, _, _, _, _, _⟩) (v := ?vs41) rfl (by kernel_rfl) (by kernel_rfl) (by kernel_rfl) (fun _ _ _ h => h) (Or.inl ⟨by rfl, ?ys41⟩) (Fr.refl _ _) ?rs41
  case ys41 =>
    intro wq hSw
    (try dsimp only at hSw)
    first | (go_simp; done) | (go_simp; with_reducible rfl)
  try simp only [Act.put, List.setIfInBounds_toArray, List.set_cons_zero, List.set_cons_succ]
  refine wpAnyH_take (i := 42) (oi := ⟨some 58, _, _, _, _, _⟩) (v := ?vs42) rfl (by kernel_rfl) (by kernel_rfl) (by kernel_rfl) (fun _ _ _ h => h) (Or.inl ⟨by rfl, ?ys42⟩) (Fr.refl _ _) ?rs42
  case ys42 =>
    intro wq hSw
    (try dsimp only at hSw)
    first | (go_simp; done) | (go_simp; with_reducible rfl)
  try simp only [Act.put, List.setIfInBounds_toArray, List.set_cons_zero, List.set_cons_succ]
  refine wpAnyH_take (i := 43) (oi := ⟨some 59, _, _, _, _, _⟩) (v := ?vs43) rfl (by kernel_rfl) (by kernel_rfl) (by kernel_rfl) (fun _ _ _ h => h) (Or.inl ⟨by rfl, ?ys43⟩) (Fr.refl _ _) ?rs43
  case ys43 =>
    intro wq hSw
    (try dsimp only at hSw)
    first | (go_simp; done) | (go_simp; with_reducible rfl)
  try simp only [Act.put, List.setIfInBounds_toArray, List.set_cons_zero, List.set_cons_succ]
  refine wpAnyH_take (i := 44) (oi := ⟨some 60, _, _, _, _, _⟩) (v := ?vs44) rfl (by kernel_rfl) (by kernel_rfl) (by kernel_rfl) (fun _ _ _ h => h) (Or.inl ⟨by rfl, ?ys44⟩) (Fr.refl _ _) ?rs44
  case ys44 =>
    intro wq hSw
    (try dsimp only at hSw)
    first | (go_simp; done) | (go_simp; with_reducible rfl)
  try simp only [Act.put, List.setIfInBounds_toArray, List.set_cons_zero, List.set_cons_succ]
  refine wpAnyH_take (i := 45) (oi := ⟨some 61, _, _, _, _, _⟩) (v := ?vs45) rfl (by kernel_rfl) (by kernel_rfl) (by kernel_rfl) (fun _ _ _ h => h) (Or.inl ⟨by rfl, ?ys45⟩) (Fr.refl _ _) ?rs45
  case ys45 =>
    intro wq hSw
    (try dsimp only at hSw)
    have hq := (NC.out.fr hSw NT.out).cell 2 (full 3) rfl
    first | (go_simp; done) | (go_simp; with_reducible rfl)
  try simp only [Act.put, List.setIfInBounds_toArray, List.set_cons_zero, List.set_cons_succ]
  refine wpAnyH_take (i := 46) (oi := ⟨some 62, _, _, _, _, _⟩) (v := ?vs46) rfl (by kernel_rfl) (by kernel_rfl) (by kernel_rfl) (fun _ _ _ h => h) (Or.inl ⟨by rfl, ?ys46⟩) (Fr.refl _ _) ?rs46
  case ys46 =>
    intro wq hSw
    (try dsimp only at hSw)
    have kk := str_of ((NC.out.fr hSw NT.out).sl 2 (full 3) rfl)
    first | (go_simp; done) | (go_simp; with_reducible rfl)
  try simp only [Act.put, List.setIfInBounds_toArray, List.set_cons_zero, List.set_cons_succ]
  refine wpAnyH_ready (rs := [47]) (by kernel_rfl) (by simp) ?_
  refine AllReadyH.cons (o := ⟨some 63, _, _, _, _, _⟩) rfl (fun K hK => ?_) AllReadyH.nil
  go_simp
  refine (full10 3 3 rfl _).mono ?_; rintro e w15 ⟨A15, c15, rfl, hs15, hb15, hl15⟩
  have S15 := Lib.hid hs15
  have N15 := Lib.hid (show ∀ b o, A15 = some ⟨b, o, none⟩ → ¬ S7 b from fun b o hA hq => by have := hl15 b o (by decide) hA; have := L8.out.old hq; omega)
  clear hs15 hl15
  have L8 := Lib.hid (L8.out.later DK hb15)
  have NC := Lib.hid (NC.out.later hb15)
  have hfr := Fr.of_below (S := S7) hb15
  clear hb15
  go_wp2_with fail
  refine hK.out _ _ hfr (fun hHeld => ?_)
  clear hK K hHeld
  try simp only [Act.put, List.setIfInBounds_toArray, List.set_cons_zero, List.set_cons_succ]
  refine wpAnyH_re (S' := fun w' => Fr (S7) w15 w') (fun w' h => hfr.trans h) ?_
  clear hfr
  refine wpAnyH_take (i := 48) (oi := ⟨some 64, _, _, _, _, _⟩) (v := ?vs48) rfl (by kernel_rfl) (by kernel_rfl) (by kernel_rfl) (fun _ _ _ h => h) (Or.inl ⟨by rfl, ?ys48⟩) (Fr.refl _ _) ?rs48
  case ys48 =>
    intro wq hSw
    (try dsimp only at hSw)
    have kk := str_of (S15.out.fr hSw (fun b o hn hA hq => N15.out b o hA hq))
    first | (go_simp; done) | (go_simp; with_reducible rfl)
  try simp only [Act.put, List.setIfInBounds_toArray, List.set_cons_zero, List.set_cons_succ]
  refine wpAnyH_take (i := 49) (oi := ⟨some 65, _, _, _, _, _⟩) (v := ?vs49) rfl (by kernel_rfl) (by kernel_rfl) (by kernel_rfl) (fun _ _ _ h => h) (Or.inl ⟨by rfl, ?ys49⟩) (Fr.refl _ _) ?rs49
  case ys49 =>
    intro wq hSw
    (try dsimp only at hSw)
    first | (go_simp; done) | (go_simp; with_reducible rfl)
  try simp only [Act.put, List.setIfInBounds_toArray, List.set_cons_zero, List.set_cons_succ]
  refine wpAnyH_take (i := 50) (oi := ⟨some 66, _, _, _, _, _⟩) (v := ?vs50) rfl (by kernel_rfl) (by kernel_rfl) (by kernel_rfl) (fun _ _ _ h => h) (Or.inl ⟨by rfl, ?ys50⟩) (Fr.refl _ _) ?rs50
  case ys50 =>
    intro wq hSw
    (try dsimp only at hSw)
    first | (go_simp; done) | (go_simp; with_reducible rfl)
  try simp only [Act.put, List.setIfInBounds_toArray, List.set_cons_zero, List.set_cons_succ]
  refine wpAnyH_take (i := 51) (oi := ⟨some 67, _, _, _, _, _⟩) (v := ?vs51) rfl (by kernel_rfl) (by kernel_rfl) (by kernel_rfl) (fun _ _ _ h => h) (Or.inl ⟨by rfl, ?ys51⟩) (Fr.refl _ _) ?rs51
  case ys51 =>
    intro wq hSw
    (try dsimp only at hSw)
    first | (go_simp; done) | (go_simp; with_reducible rfl)
  try simp only [Act.put, List.setIfInBounds_toArray, List.set_cons_zero, List.set_cons_succ]
  refine wpAnyH_take (i := 52) (oi := ⟨some 68, _, _, _, _, _⟩) (v := ?vs52) rfl (by kernel_rfl) (by kernel_rfl) (by kernel_rfl) (fun _ _ _ h => h) (Or.inl ⟨by rfl, ?ys52⟩) (Fr.refl _ _) ?rs52
  case ys52 =>
    intro wq hSw
    (try dsimp only at hSw)
    first | (go_simp; done) | (go_simp; with_reducible rfl)
  try simp only [Act.put, List.setIfInBounds_toArray, List.set_cons_zero, List.set_cons_succ]
  refine wpAnyH_ready (rs := [53]) (by kernel_rfl) (by simp) ?_
  refine AllReadyH.cons (o := ⟨some 69, _, _, _, _, _⟩) rfl (fun K hK => ?_) AllReadyH.nil
  go_simp
  have hh := arflush_any DK L8.out.ap (wl_of (by decide)) (by decide)
  rw [show flushN st2 st2.length = 2 from by decide] at hh
  refine hh.mono ?_; clear hh; rintro e w16 ⟨rfl, hm⟩
  obtain ⟨S16, hL, hn⟩ := L8.out.mut hm
  have LE := Lib.hid hL.bel
  have hfr := hn.1
  clear hm hL hn
  go_wp2_with fail
  refine hK.out _ _ hfr (fun hHeld => ?_)
  clear hK K hHeld
  try simp only [Act.put, List.setIfInBounds_toArray, List.set_cons_zero, List.set_cons_succ]
  refine wpAnyH_re (S' := fun w' => Fr (S7) w16 w') (fun w' h => hfr.trans h) ?_
  clear hfr
  refine wpAnyH_take (i := 54) (oi := ⟨some 70, _, _, _, _, _⟩) (v := ?vs54) rfl (by kernel_rfl) (by kernel_rfl) (by kernel_rfl) (fun _ _ _ h => h) (Or.inl ⟨by rfl, ?ys54⟩) (Fr.refl _ _) ?rs54
  case ys54 =>
    intro wq hSw
    (try dsimp only at hSw)
    first | (go_simp; done) | (go_simp; with_reducible rfl)
  try simp only [Act.put, List.setIfInBounds_toArray, List.set_cons_zero, List.set_cons_succ]
  refine wpAnyH_take (i := 55) (oi := ⟨some 71, _, _, _, _, _⟩) (v := ?vs55) rfl (by kernel_rfl) (by kernel_rfl) (by kernel_rfl) (fun _ _ _ h => h) (Or.inl ⟨by rfl, ?ys55⟩) (Fr.refl _ _) ?rs55
  case ys55 =>
    intro wq hSw
    (try dsimp only at hSw)
    first | (go_simp; done) | (go_simp; with_reducible rfl)
  try simp only [Act.put, List.setIfInBounds_toArray, List.set_cons_zero, List.set_cons_succ]
  refine wpAnyH_take (i := 56) (oi := ⟨some 72, _, _, _, _, _⟩) (v := ?vs56) rfl (by kernel_rfl) (by kernel_rfl) (by kernel_rfl) (fun _ _ _ h => h) (Or.inl ⟨by rfl, ?ys56⟩) (Fr.refl _ _) ?rs56
  case ys56 =>
    intro wq hSw
    (try dsimp only at hSw)
    first | (go_simp; done) | (go_simp; with_reducible rfl)
  try simp only [Act.put, List.setIfInBounds_toArray, List.set_cons_zero, List.set_cons_succ]
  refine wpAnyH_ready (rs := [57]) (by kernel_rfl) (by simp) ?_
  refine AllReadyH.cons (o := ⟨some 73, _, _, _, _, _⟩) rfl (fun K hK => ?_) AllReadyH.nil
  go_simp
  refine (arnew_no DK 0 2 _ (by omega) (by omega) (by omega)).mono ?_; rintro e w17 ⟨rfl, hb17⟩
  have LE := Lib.hid (LE.out.trans (hb17.mono LE.out.size))
  have hfr := Fr.of_below (S := S7) hb17
  clear hb17
  go_wp2_with fail
  refine hK.out _ _ hfr (fun hHeld => ?_)
  clear hK K hHeld
  try simp only [Act.put, List.setIfInBounds_toArray, List.set_cons_zero, List.set_cons_succ]
  refine wpAnyH_re (S' := fun w' => Fr (S7) w17 w') (fun w' h => hfr.trans h) ?_
  clear hfr
  refine wpAnyH_take (i := 58) (oi := ⟨some 74, _, _, _, _, _⟩) (v := ?vs58) rfl (by kernel_rfl) (by kernel_rfl) (by kernel_rfl) (fun _ _ _ h => h) (Or.inl ⟨by rfl, ?ys58⟩) (Fr.refl _ _) ?rs58
  case ys58 =>
    intro wq hSw
    (try dsimp only at hSw)
    first | (go_simp; done) | (go_simp; with_reducible rfl)
  try simp only [Act.put, List.setIfInBounds_toArray, List.set_cons_zero, List.set_cons_succ]
  refine wpAnyH_take (i := 59) (oi := ⟨some 75, _, _, _, _, _⟩) (v := ?vs59) rfl (by kernel_rfl) (by kernel_rfl) (by kernel_rfl) (fun _ _ _ h => h) (Or.inl ⟨by rfl, ?ys59⟩) (Fr.refl _ _) ?rs59
  case ys59 =>
    intro wq hSw
    (try dsimp only at hSw)
    first | (go_simp; done) | (go_simp; with_reducible rfl)
  try simp only [Act.put, List.setIfInBounds_toArray, List.set_cons_zero, List.set_cons_succ]
  refine wpAnyH_take (i := 60) (oi := ⟨some 0, _, _, _, _, _⟩) (v := ?vs60) rfl (by kernel_rfl) (by kernel_rfl) (by kernel_rfl) (fun _ _ _ h => h) (Or.inl ⟨by rfl, ?ys60⟩) (Fr.refl _ _) ?rs60
  case ys60 =>
    intro wq hSw
    (try dsimp only at hSw)
    first | (go_simp; done) | (go_simp; with_reducible rfl)
  try simp only [Act.put, List.setIfInBounds_toArray, List.set_cons_zero]
  refine wpAnyH_done (by kernel_rfl) ?_ _
  go_wp2_with fail
  go_ret
  exact ⟨rfl, LE.out⟩
end
end Go.Proofs.Ytjjoeaneaibklaa

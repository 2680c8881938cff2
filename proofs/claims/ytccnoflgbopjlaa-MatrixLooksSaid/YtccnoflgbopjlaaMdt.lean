/-
  The statements' own 'stands' (the page's examples) answers true; 'few'. No condition.
-/
import Derived.Test.YtccnoflgbopjlaaMds
import Derived.Test.YtccnoflgbopjlaaMdn
namespace Go.Proofs.Ytccnoflgbopjlaa
open Go.RowKit Go.Proofs
set_option linter.unusedVariables false

/-- In a call that began in w0: a field at blocks F, T of its own; what lay in memory lies there still. -/
structure In (w0 : World) (F T : Nat) (w : World) : Prop where
  below : Below w0.heap.size w0 w
  fld : Fld w F T
  tb : w0.heap.size ≤ T
theorem In.new {w0 w w' : World} {F T : Nat} (hf : Fld w' F T) (hb : Below w.heap.size w w') (h0 : Below w0.heap.size w0 w) (hT : w0.heap.size ≤ T) : In w0 F T w' := ⟨h0.trans (hb.mono h0.size), hf, hT⟩
theorem In.next {w0 w w' : World} {F T : Nat} (h : In w0 F T w) (hf : Fld1 w' F T) (hr : Fr (Ft T) w w') : In w0 F T w' :=
  ⟨h.below.trans (hr.below h.below.size (by rintro k rfl; exact h.tb)), hf.fld, h.tb⟩
theorem In.later {w0 w w' : World} {F T : Nat} (h : In w0 F T w) (hb : Below w.heap.size w w') : In w0 F T w' := ⟨h.below.trans (hb.mono h.below.size), h.fld.later hb, h.tb⟩

set_option maxRecDepth 20000 in
theorem few_any (r c : Int) (A : Option Addr) (n cp : Nat) (w : World) :
    Calls Try.prog 9 #[.agg #[.int .i64 r, .int .i64 c, .slice A n cp]] w fun e w' => e = .returned (.bool (decide (n ≤ 150))) ∧ Below w.heap.size w w' := by
  by_cases h : n ≤ 150
  · have hd : decide ((n : Int) ≤ 150) = true := by simp; omega
    go_enter Try.func9, Try.ntmps9
    go_wp2_with fail
    go_ret
    exact ⟨by rw [decide_eq_true h]; rfl, (Below.refl _ _).alloc (Nat.le_refl _) _⟩
  · have hd : decide ((n : Int) ≤ 150) = false := by simp; omega
    go_enter Try.func9, Try.ntmps9
    go_wp2_with fail
    go_ret
    exact ⟨by rw [decide_eq_false h]; rfl, (Below.refl _ _).alloc (Nat.le_refl _) _⟩

theorem ginv2 : ginv 2 = 142 := by decide +kernel
theorem ex1_one {X : Mx} (h : Alike 1 1 (mm 1 X (mx 1 [2])) one) : tabL 1 1 X = [142] := by
  have h0 := h 0 (by omega) 0 (by omega)
  have e : gm (X 0 0) 2 = 1 := by
    have : mm 1 X (mx 1 [2]) 0 0 = gm (X 0 0) 2 := by show (0 : UInt8) ^^^ gm (X 0 0) (mx 1 [2] 0 0) = _; rw [uzx]; rfl
    rw [this] at h0
    exact h0
  have e2 : X 0 0 = 142 := by
    have := gd_unique (v := 2) (by decide) e
    rw [this, gd, one_gm, ginv2]
  show [X (0 / 1) (0 % 1)] = [142]
  rw [show (0 / 1 : Nat) = 0 from rfl, show (0 % 1 : Nat) = 0 from rfl, e2]
theorem ex1_rk {L : Nat} (hL : L < 1) (h : Rk 1 1 (mx 1 [2]) L) : False := by
  obtain rfl : L = 0 := by omega
  obtain ⟨C, R, hCR⟩ := h.fac
  have h0 := hCR 0 (by omega) 0 (by omega)
  have : (2 : UInt8) = 0 := h0
  exact absurd this (by decide)
theorem ex2_not {X : Mx} (h : Alike 2 2 (mm 2 X (mx 2 [1, 2, 1, 2])) one) : False := by
  have h0 : ((0 : UInt8) ^^^ gm (X 0 0) 1) ^^^ gm (X 0 1) 1 = 1 := h 0 (by omega) 0 (by omega)
  have h1 : ((0 : UInt8) ^^^ gm (X 0 0) 2) ^^^ gm (X 0 1) 2 = 0 := h 0 (by omega) 1 (by omega)
  rw [uzx, gm_one, gm_one] at h0
  rw [uzx, ← xor_gm, h0, one_gm] at h1
  exact absurd h1 (by decide)
theorem ex3 : tabL 2 2 (cauM [2, 3] [0, 1]) = [142, 244, 244, 142] := by decide +kernel
theorem ex3_twice : twiceB ([2, 3] ++ [0, 1]) = false := by decide

/-- A slice that was just made of bytes. -/
theorem Sl.lit (w : World) (l : List UInt8) (n : Nat) (hn : l.length = n) (h : n ≤ maxLen) (cs : Array Value) (hc : cs.toList = cells l) : Sl (w.alloc (.cells cs 5)) 1 (some ⟨w.heap.size, 0, none⟩) n n (cells l) := by
  have := Sl.made w cs 5 1 n (by rw [← Array.length_toList, hc, cells_length, hn, Nat.mul_one]) h
  rwa [hc] at this

/-- A variable that holds a matrix. -/
structure MB (w : World) (T g : Nat) (r c : Int) (A : Option Addr) (n cp : Nat) (l : List UInt8) : Prop where
  box : w.heap[g]? = some (boxM r c A n cp)
  mx : MxAt w T A n cp l
  ne : g ≠ T
section
variable {w w' : World} {T g : Nat} {r c : Int} {A : Option Addr} {n cp : Nat} {l : List UInt8}
theorem MB.next (h : MB w T g r c A n cp l) (hf : Fr (Ft T) w w') : MB w' T g r c A n cp l := ⟨hf.row_some h.box (by show ¬ g = T; exact h.ne), h.mx.fr hf, h.ne⟩
theorem MB.later (h : MB w T g r c A n cp l) (hb : Below w.heap.size w w') : MB w' T g r c A n cp l := ⟨(hb.block _ (block_lt h.box)).trans h.box, h.mx.later hb, h.ne⟩
theorem MB.new (h : MxAt w T A n cp l) (hT : T < w.heap.size) : MB (w.alloc (boxM r c A n cp)) T w.heap.size r c A n cp l := ⟨heap_alloc_new w _, h.later ((Below.refl _ _).alloc (Nat.le_refl _) _), by omega⟩
theorem MB.c0 (h : MB w T g r c A n cp l) : w.cell? ⟨g, 0, none⟩ = some (.int .i64 r) := boxM_0 h.box
theorem MB.c1 (h : MB w T g r c A n cp l) : w.cell? ⟨g, 1, none⟩ = some (.int .i64 c) := boxM_1 h.box
theorem MB.c2 (h : MB w T g r c A n cp l) : w.cell? ⟨g, 2, none⟩ = some (.slice A n cp) := boxM_2 h.box
end

theorem MxAt.lit (w : World) (T : Nat) (hT : T < w.heap.size) (l : List UInt8) (n : Nat) (hn : l.length = n) (cs : Array Value) (hc : cs.toList = cells l) (h : n ≤ maxLen := by decide) : MxAt (w.alloc (.cells cs 5)) T (some ⟨w.heap.size, 0, none⟩) n n l :=
  ⟨Sl.lit w l n hn h cs hc, fun b o _ hA => by
    injection hA with hA
    injection hA with hA _
    omega⟩
theorem invert_at (F T n : Nat) (r c : Int) (hr : r = (n : Int)) (hc : c = (n : Int)) (A : Option Addr) (N cp : Nat) (l : List UInt8) (h1 : 1 ≤ n) (h2 : n ≤ 255) (hN : N = n * n) (w : World) (h : Fld w F T) (hm : MxAt w T A N cp l) :
    Calls Try.prog 23 #[.pointer (some ⟨F, 0, none⟩), .agg #[.int .i64 r, .int .i64 c, .slice A N cp]] w
      fun e w' => ((∃ L, L < n ∧ Rk n n (mx n l) L ∧ e = .returned (NoMx 40)) ∨ (∃ X : Mx, Alike n n (mm n X (mx n l)) one ∧ RetOk n n (tabL n n X) w e w')) ∧ Fld1 w' F T ∧ Fr (Ft T) w w' := by
  subst hr; subst hc
  exact invert_yes F T n A N cp l h1 h2 hN w h hm

set_option maxRecDepth 20000 in
set_option maxHeartbeats 3200000 in
theorem stands_any (w : World) : Calls Try.prog 10 #[] w (SaysTrue w) := by
  go_enter Try.func10, Try.ntmps10
  go_wp2_with fail
  refine (new_any _).mono ?_; rintro e w1 ⟨rfl, hf, hb⟩
  have I1 := Lib.hid (In.new hf hb (Below.refl _ _) (Nat.le_refl _)); clear hf hb
  go_wp2_with fail
  have b1 : Below w1.heap.size w1 (w1.alloc (.cells #[.int .u8 2] 5)) := (Below.refl _ _).alloc (Nat.le_refl _) _
  have hT1 := I1.out.fld.ltT
  have J1 := Lib.hid (I1.out.later b1)
  have hm := MxAt.lit w1 w.heap.size I1.out.fld.ltT [2] 1 rfl #[.int .u8 2] rfl
  have hh := invert_at (w.heap.size + 1) w.heap.size 1 1 1 rfl rfl _ 1 1 [2] (by omega) (by omega) rfl _ J1.out.fld hm
  refine hh.mono ?_; clear hh hm b1 I1; rintro e w2 ⟨hcase, hf, hr⟩
  have I2 := Lib.hid (J1.out.next hf hr); clear hf hr J1
  rcases hcase with ⟨L, hL, hk, rfl⟩ | ⟨X, hX, A2, c2, rfl, hg2⟩
  · exact (ex1_rk hL hk).elim
  rw [ex1_one hX] at hg2
  clear hX
  simp only [Nat.mul_one] at hg2
  have hm2 := hg2.at_ (T := w.heap.size) (by simp; omega)
  clear hg2
  have B2 := Lib.hid (MB.new (r := 1) (c := 1) hm2 I2.out.fld.ltT)
  have J2 := Lib.hid (I2.out.later ((Below.refl _ _).alloc (Nat.le_refl _) (boxM 1 1 A2 1 c2)))
  clear I2 hm2
  -- two like rows
  go_wp2_with fail
  have hT2 := J2.out.fld.ltT
  have b3 : Below (w2.alloc (boxM 1 1 A2 1 c2)).heap.size (w2.alloc (boxM 1 1 A2 1 c2)) ((w2.alloc (boxM 1 1 A2 1 c2)).alloc (.cells #[.int .u8 1, .int .u8 2, .int .u8 1, .int .u8 2] 5)) := (Below.refl _ _).alloc (Nat.le_refl _) _
  have hm3 := MxAt.lit (w2.alloc (boxM 1 1 A2 1 c2)) w.heap.size hT2 [1, 2, 1, 2] 4 rfl #[.int .u8 1, .int .u8 2, .int .u8 1, .int .u8 2] rfl
  have J3 := Lib.hid (J2.out.later b3)
  have B3 := Lib.hid (B2.out.later b3)
  rw [show (w2.alloc (boxM 1 1 A2 1 c2)).heap.size = w2.heap.size + 1 from by simp] at hm3
  have hh := invert_at (w.heap.size + 1) w.heap.size 2 2 2 rfl rfl _ 4 4 [1, 2, 1, 2] (by omega) (by omega) rfl _ J3.out.fld hm3
  refine hh.mono ?_; clear hh hm3 b3 J2 B2 hT2; rintro e w4 ⟨hcase, hf, hr⟩
  have I4 := Lib.hid (J3.out.next hf hr)
  have B4 := Lib.hid (B3.out.next hr); clear hf hr J3 B3
  obtain ⟨L, hL, hk, rfl⟩ := hcase.resolve_right (fun ⟨X, hX, _⟩ => ex2_not hX)
  clear hk hL hcase
  have b5 : Below w4.heap.size w4 (w4.alloc (boxM 0 0 none 0 0)) := (Below.refl _ _).alloc (Nat.le_refl _) _
  have J5 := Lib.hid (I4.out.later b5)
  have B5 := Lib.hid (B4.out.later b5); clear I4 B4 b5
  rw [NoMx]
  go_wp2_with fail
  -- the Cauchy matrix
  have hT5 := J5.out.fld.ltT
  have b6 : Below (w4.alloc (boxM 0 0 none 0 0)).heap.size (w4.alloc (boxM 0 0 none 0 0)) ((w4.alloc (boxM 0 0 none 0 0)).alloc (.cells #[.int .u8 2, .int .u8 3] 5)) := (Below.refl _ _).alloc (Nat.le_refl _) _
  have hm6 := MxAt.lit (w4.alloc (boxM 0 0 none 0 0)) w.heap.size hT5 [2, 3] 2 rfl #[.int .u8 2, .int .u8 3] rfl
  have J6 := Lib.hid (J5.out.later b6)
  have B6 := Lib.hid (B5.out.later b6)
  have hT6 := J6.out.fld.ltT
  have b7 : Below ((w4.alloc (boxM 0 0 none 0 0)).alloc (.cells #[.int .u8 2, .int .u8 3] 5)).heap.size ((w4.alloc (boxM 0 0 none 0 0)).alloc (.cells #[.int .u8 2, .int .u8 3] 5)) (((w4.alloc (boxM 0 0 none 0 0)).alloc (.cells #[.int .u8 2, .int .u8 3] 5)).alloc (.cells #[.int .u8 0, .int .u8 1] 5)) := (Below.refl _ _).alloc (Nat.le_refl _) _
  have hm7 := MxAt.lit ((w4.alloc (boxM 0 0 none 0 0)).alloc (.cells #[.int .u8 2, .int .u8 3] 5)) w.heap.size hT6 [0, 1] 2 rfl #[.int .u8 0, .int .u8 1] rfl
  have J7 := Lib.hid (J6.out.later b7)
  have B7 := Lib.hid (B6.out.later b7)
  have hm6' := hm6.later b7
  rw [show (w4.alloc (boxM 0 0 none 0 0)).heap.size = w4.heap.size + 1 from by simp] at hm6'
  rw [show ((w4.alloc (boxM 0 0 none 0 0)).alloc (.cells #[.int .u8 2, .int .u8 3] 5)).heap.size = w4.heap.size + 2 from by simp] at hm7
  have hh := cauchy_yes (w.heap.size + 1) w.heap.size _ 2 2 [2, 3] _ 2 2 [0, 1] _ J7.out.fld hm6' hm7 (by omega) (by omega) ex3_twice
  rw [ex3] at hh
  refine hh.mono ?_; clear hh hm6 hm6' hm7 b6 b7 J5 B5 J6 B6 hT5; rintro e w8 ⟨⟨A8, c8, rfl, hg8⟩, hf, hr⟩
  have I8 := Lib.hid (J7.out.next hf hr)
  have B8 := Lib.hid (B7.out.next hr); clear hf hr B7
  have hm8 := hg8.at_ (T := w.heap.size) (by have := J7.out.fld.ltT; exact this)
  have hT8 := I8.out.fld.ltT
  clear hg8 J7
  have b9 : Below w8.heap.size w8 (w8.alloc (boxM 2 2 A8 4 c8)) := (Below.refl _ _).alloc (Nat.le_refl _) _
  have hx8 := heap_alloc_new w8 (boxM 2 2 A8 4 c8)
  have J9 := Lib.hid (I8.out.later b9)
  have B9 := Lib.hid (B8.out.later b9)
  have M9 := Lib.hid (hm8.later b9)
  have q1 : (w8.alloc (.cells #[.int .i64 2, .int .i64 2, .slice A8 4 c8] 24)).cell? ⟨w2.heap.size, 2, none⟩ = some (.slice A2 1 c2) := B9.out.c2
  have k := str_of (show Sl (w8.alloc (.cells #[.int .i64 2, .int .i64 2, .slice A8 4 c8] 24)) 1 A8 4 c8 (cells [142, 244, 244, 142]) from M9.out.sl)
  obtain ⟨b2, o2, rfl, hc2⟩ := B9.out.mx.sl.at_ (k := 0) (by omega)
  have q2 : (w8.alloc (.cells #[.int .i64 2, .int .i64 2, .slice A8 4 c8] 24)).cell? ⟨b2, o2, none⟩ = some (.int .u8 142) := hc2 0 _ rfl
  have hend := Lib.hid J9.out.below
  clear hc2 hx8 J9 B9 M9 I8 B8 hm8 b9
  go_wp2_with fail
  go_ret
  exact ⟨by rw [bstr_toList]; rfl, hend.out⟩
end Go.Proofs.Ytccnoflgbopjlaa

/-
  The walk of BitmapRuns. Condition: the table reads as the row lists it ('Tz').
-/
import Derived.Test.YthkflghekgbgcaaDoorEbj
namespace Go.Proofs.YthkflghekgbgcaaDoor
open Go.RowKit Go.Proofs
set_option linter.unusedVariables false

theorem step_min12 {ρ : Operand → Value} {o : Oper} {x y : Operand} {w : World} {a b : Int} (ho : o.op = .call { callee := .builtin .min, args := #[x, y], argTypes := #[3, 3] }) (hx : ρ x = .int .i64 a) (hy : ρ y = .int .i64 b) : (execOp ρ o).run Tryd.prog w = .ok (.value (.int .i64 (min a b))) w := by
  have e : (if b < a then b else a) = min a b := by split <;> omega
  unfold execOp
  simp only [ho, resolve, invoke, builtin, Sem.run_bind, Sem.run_pure, Result.andThen_ok, List.map_toArray, List.map_cons, List.map_nil, hx, hy, run_min_int2, e]
theorem step_max12 {ρ : Operand → Value} {o : Oper} {x y : Operand} {w : World} {a b c : Int} (ho : o.op = .call { callee := .builtin .max, args := #[x, y], argTypes := #[3, 3] }) (hx : ρ x = .int .i64 a) (hy : ρ y = .int .i64 b) (hc : max a b = c) : (execOp ρ o).run Tryd.prog w = .ok (.value (.int .i64 c)) w := by
  subst hc
  have e : (if b > a then b else a) = max a b := by split <;> omega
  unfold execOp
  simp only [ho, resolve, invoke, builtin, Sem.run_bind, Sem.run_pure, Result.andThen_ok, List.map_toArray, List.map_cons, List.map_nil, hx, hy, run_max_int2, e]
theorem wpList_step12 {P : Program} {ops : Array Oper} {rest : List Oper} {o : Oper} {a : Act} {w : World} {Q : Exit → Act → World → Prop} (hgd : o.guard = none) (v : Value) (w' : World) (hr : (execOp a.eval o).run P w = .ok (.value v) w') (hk : wpList P ops Q rest (a.put o.dst v) w') : wpList P ops Q (o :: rest) a w :=
  wpList_plain hgd fun _ hK => by
    unfold Oper.wp
    rw [hr]
    exact hK _ _ hk

/-- While runs are looked for, place by place from a on: the last s are free, and no run of m ends yet. -/
structure Sc (n : Nat) (f : Nat → Bool) (a m i s : Nat) : Prop where
  le : a + s ≤ i
  lt : s < m
  free : ∀ x, i ≤ x + s → x < i → f x = false
  most : i = a + s ∨ (a + s + 1 ≤ i ∧ f (i - s - 1) = true)
  no : ∀ t, a ≤ t → t + m ≤ i → ∃ j, j < m ∧ f (t + j) = true
section
variable {n a m i s : Nat} {f : Nat → Bool}
theorem Sc.start (hm : 1 ≤ m) : Sc n f a m a 0 := ⟨Nat.le_refl _, by omega, fun x h1 h2 => absurd h2 (by omega), .inl rfl, fun t h1 h2 => absurd h2 (by omega)⟩
theorem Sc.taken (h : Sc n f a m i s) (hf : f i = true) : Sc n f a m (i + 1) 0 := by
  have h1 := h.le
  have h2 := h.lt
  refine ⟨by omega, by omega, fun x h3 h4 => absurd h4 (by omega), .inr ⟨by omega, by simpa using hf⟩, fun t h3 h4 => ?_⟩
  by_cases e : t + m ≤ i
  · exact h.no t h3 e
  · exact ⟨i - t, by omega, by rw [show t + (i - t) = i by omega]; exact hf⟩
theorem Sc.more (h : Sc n f a m i s) (hf : f i = false) (hs : s + 1 < m) : Sc n f a m (i + 1) (s + 1) := by
  have h1 := h.le
  refine ⟨by omega, hs, fun x h3 h4 => ?_, ?_, fun t h3 h4 => ?_⟩
  · by_cases e : x = i
    · rw [e]; exact hf
    · exact h.free x (by omega) (by omega)
  · rcases h.most with e | ⟨e1, e2⟩
    · left; omega
    · right
      exact ⟨by omega, by rw [show i + 1 - (s + 1) - 1 = i - s - 1 by omega]; exact e2⟩
  · by_cases e : t + m ≤ i
    · exact h.no t h3 e
    · rcases h.most with e1 | ⟨e1, e2⟩
      · omega
      · exact ⟨i - s - 1 - t, by omega, by rw [show t + (i - s - 1 - t) = i - s - 1 by omega]; exact e2⟩
theorem Sc.found (h : Sc n f a m i s) (hi : i < n) (hf : f i = false) (hs : s + 1 = m) : IsRunL (plc n a f false) m ((i : Int) - (m : Int) + 1) := by
  have h1 := h.le
  refine .inr ⟨i - s, by omega, fun j hj => plc_mem.2 ⟨by omega, by omega, ?_⟩, fun t h3 hr => ?_⟩
  · by_cases e : i - s + j = i
    · rw [e]; exact hf
    · exact h.free _ (by omega) (by omega)
  · have h4 := (plc_mem.1 (hr 0 (by omega))).1
    obtain ⟨j, hj, e⟩ := h.no t h4 (by omega)
    have := (plc_mem.1 (hr j hj)).2.2
    rw [this] at e
    cases e
theorem Sc.end_ (h : Sc n f a m i s) (hi : n ≤ i) (hm : 1 ≤ m) : IsRunL (plc n a f false) m (-1) := by
  refine .inl ⟨rfl, fun t hr => ?_⟩
  have h4 := (plc_mem.1 (hr 0 (by omega))).1
  have h5 := (plc_mem.1 (hr (m - 1) (by omega))).2.1
  obtain ⟨j, hj, e⟩ := h.no t h4 (by omega)
  have := (plc_mem.1 (hr j hj)).2.2
  rw [this] at e
  cases e
theorem plc_min : plc n (min a n) f false = plc n a f false := by
  rcases Nat.le_total a n with h | h
  · rw [Nat.min_eq_left h]
  · rw [Nat.min_eq_right h, plc_end (Nat.le_refl _), plc_end h]
theorem run_code_z {z : Int} {y : Nat} (hy : 1 ≤ y) : IsRunL (plc n z.toNat f false) y (runD12 n f z (y : Int)) := by
  rw [runD12, if_neg (by omega), Int.toNat_natCast]
  exact run_code y hy _ plc_up
theorem run_one_first (z : Int) : runD12 n f z 1 = headZ (plc n z.toNat f false) := (run_code_z (n := n) (f := f) (z := z) (y := 1) (by omega)).one (IsRunL.first plc_up)
theorem run_none (z : Int) : runD12 n f z 0 = -1 := rfl
end

set_option maxRecDepth 20000 in
set_option maxHeartbeats 3200000 in
theorem bitmapRuns_walk (x0 : Int) (A1 : Option Addr) (p1 : Nat) (x1 : List Int) (x2 x3 : Int) (W : World) (b0 : -9223372036854775808 ≤ x0 ∧ x0 < 9223372036854775808) (b2 : -9223372036854775808 ≤ x2 ∧ x2 < 9223372036854775808) (b3 : -9223372036854775808 ≤ x3 ∧ x3 < 9223372036854775808) (h1 : Sl W 1 A1 x1.length p1 (icells x1)) (hN : Tz W) :
    Calls Tryd.prog 4 #[.int .i64 x0, .slice A1 x1.length p1, .int .i64 x2, .int .i64 x3] W (SaysTrue W) := by
  obtain ⟨q, hq⟩ : ∃ q, q = x1.length := ⟨_, rfl⟩
  have h1' := h1
  rw [← hq] at h1' ⊢
  have H1 := Lib.hid h1'
  have Hq := Lib.hid hq
  have HN := Lib.hid hN
  have htk := tk12_any W hN
  clear h1 h1' hq hN
  by_cases c1 : x0 < 0
  case pos =>
    go_enter Tryd.func4, Tryd.ntmps4
    go_wp2_with fail
    refine htk.mono ?_; clear htk; rintro e w1 ⟨rfl, hb⟩
    go_wp2_with fail
    go_ret
    exact ⟨rfl, hb⟩
  by_cases c2 : 200 < x0
  case pos =>
    go_enter Tryd.func4, Tryd.ntmps4
    go_wp2_with fail
    refine htk.mono ?_; clear htk; rintro e w1 ⟨rfl, hb⟩
    go_wp2_with fail
    go_ret
    exact ⟨rfl, hb⟩
  by_cases c3 : (200 : Int) < (q : Int)
  case pos =>
    go_enter Tryd.func4, Tryd.ntmps4
    go_wp2_with fail
    refine htk.mono ?_; clear htk; rintro e w1 ⟨rfl, hb⟩
    go_wp2_with fail
    go_ret
    exact ⟨rfl, hb⟩
  by_cases c4 : x3 < 1
  case pos =>
    go_enter Tryd.func4, Tryd.ntmps4
    go_wp2_with fail
    refine htk.mono ?_; clear htk; rintro e w1 ⟨rfl, hb⟩
    go_wp2_with fail
    go_ret
    exact ⟨rfl, hb⟩
  by_cases c5 : 200 < x3
  case pos =>
    go_enter Tryd.func4, Tryd.ntmps4
    go_wp2_with fail
    refine htk.mono ?_; clear htk; rintro e w1 ⟨rfl, hb⟩
    go_wp2_with fail
    go_ret
    exact ⟨rfl, hb⟩
  clear htk
  obtain ⟨n, rfl⟩ : ∃ n : Nat, x0 = (n : Int) := ⟨x0.toNat, by omega⟩
  obtain ⟨m, rfl⟩ : ∃ m : Nat, x3 = (m : Int) := ⟨x3.toNat, by omega⟩
  have hnew := new_yes n (by omega) W
  have hn200 : n ≤ 200 := by omega
  have hm200 : m ≤ 200 := by omega
  have hm1 : 1 ≤ m := by omega
  clear c1
  go_enter Tryd.func4, Tryd.ntmps4
  go_wp2_with fail
  refine hnew.mono ?_; clear hnew; rintro e w1 ⟨M, B, rfl, hp, hb, hM, hB⟩
  have P1 := Lib.hid hp
  have B1 := Lib.hid hb
  have HB := Lib.hid hB
  clear hp hb hM hB
  go_wp2_with fail
  go_loopw [10] (fun i wr => ∃ (j : Nat) (f : Nat → Bool), j ≤ q ∧ i = .int .i64 (j : Int) ∧ Bp wr M B n f ∧ Below W.heap.size W wr) (fun i _ => q - (intOf i).toNat)
  case atStart => exact ⟨0, _, by omega, rfl, P1.out, B1.out⟩
  case round =>
    obtain ⟨j, f, hj, rfl, hp, hb⟩ := hrel
    have P := Lib.hid hp
    have Bb := Lib.hid hb
    clear hp hb
    by_cases hlt : j < q
    · obtain ⟨b, o, rfl, hc⟩ := (H1.out.below Bb.out (Nat.le_refl _)).at_ hlt
      have hcell := hc j _ (icells_get x1 j (by rw [← Hq.out]; exact hlt))
      obtain ⟨x, hx⟩ : ∃ x, x = x1[j]'(by rw [← Hq.out]; exact hlt) := ⟨_, rfl⟩
      rw [← hx] at hcell
      have hset := set_any M B n x f true wr P.out
      have hji : (j : Int) < (q : Int) := by omega
      obtain ⟨y, hy⟩ : ∃ y, y = setB n f x true := ⟨_, rfl⟩
      rw [← hy] at hset
      clear hc hx hy
      go_wp2_with fail
      refine hset.mono ?_; clear hset; rintro e w2 ⟨rfl, hp2, hf2⟩
      have hb2 : Below W.heap.size W w2 := Bb.out.trans (hf2.below Bb.out.size (fun k hk => by have hk : k = B := hk; have := HB.out; omega))
      have P2 := Lib.hid hp2
      have B2 := Lib.hid hb2
      clear hp2 hf2 hb2 hcell
      go_wp2_with fail
      go_roundw
      case rel => exact ⟨j + 1, _, by omega, by go_num, P2.out, B2.out⟩
      case measure => simp [intOf]; omega
    · have hji : ¬ (j : Int) < (q : Int) := by omega
      have HNr := Lib.hid (HN.out.keep Bb.out)
      have hrun := run_z _ n f x2 (m : Int) b2.2 wr P.out.mp HNr.out
      have Hrc := Lib.hid (run_code_z (n := n) (f := f) (z := x2) (y := m) hm1)
      obtain ⟨at_, hat⟩ : ∃ y, y = runD12 n f x2 (m : Int) := ⟨_, rfl⟩
      rw [← hat] at hrun Hrc
      obtain ⟨a0, ha0⟩ : ∃ a0 : Nat, a0 = min x2.toNat n := ⟨_, rfl⟩
      have ham : max 0 (min x2 (n : Int)) = (a0 : Int) := by omega
      have han : a0 ≤ n := by omega
      have Hpl := Lib.hid (show plc n x2.toNat f false = plc n a0 f false by rw [ha0, plc_min])
      have Ham := Lib.hid ham
      clear hat ha0 ham
      go_wp2_with fail
      refine hrun.mono ?_; clear hrun; rintro e w3 ⟨rfl, hb3⟩
      have P3 := Lib.hid (P.out.later hb3)
      have B3 := Lib.hid (Bb.out.trans (hb3.mono Bb.out.size))
      clear hb3
      go_wp2_with (first | (refine at_dst (d := 55) ?_; refine wpList_step12 (o := ⟨some 55, _, _, _, _, _⟩) rfl (.int .i64 (min x2 (n : Int))) _ (step_min12 rfl rfl rfl) ?_) | (refine at_dst (d := 56) ?_; refine wpList_step12 (o := ⟨some 56, _, _, _, _, _⟩) rfl (.int .i64 (a0 : Int)) _ (step_max12 rfl rfl rfl Ham.out) ?_))
      go_loopw [12, 13, 14] (fun sd fd i wr => ∃ (s k : Nat) (z : Int), k ≤ n ∧ i = .int .i64 (k : Int) ∧ sd = .int .i64 (s : Int) ∧ fd = .int .i64 z ∧ s ≤ 200 ∧ ((z = -1 ∧ Sc n f a0 m k s) ∨ (0 ≤ z ∧ IsRunL (plc n a0 f false) m z)) ∧ wr = w3) (fun _ _ i _ => n - (intOf i).toNat)
      case atStart => exact ⟨0, a0, -1, han, rfl, rfl, rfl, by omega, .inl ⟨rfl, Sc.start hm1⟩, rfl⟩
      case round =>
        obtain ⟨s, k, z, hk, rfl, rfl, rfl, hs, hsc, rfl⟩ := hrel
        by_cases hgo : k < n ∧ z = -1
        · obtain ⟨hkn, rfl⟩ := hgo
          have hsc2 : Sc n f a0 m k s := by
            rcases hsc with ⟨_, h⟩ | ⟨h, _⟩
            · exact h
            · omega
          have SC := Lib.hid hsc2
          have hhas := has_any _ n f (k : Int) wr P3.out.mp
          rw [show inB n (k : Int) = true by simp [inB]; omega, Bool.true_and, Int.toNat_natCast] at hhas
          obtain ⟨y, hy⟩ : ∃ y, y = f k := ⟨_, rfl⟩
          rw [← hy] at hhas
          have Hy := Lib.hid hy
          clear hsc hsc2 hy
          cases y
          · by_cases hsm : s + 1 = m
            · have hz : ((s : Int) + 1 == (m : Int)) = true := by simp; omega
              have HF := Lib.hid (SC.out.found hkn Hy.out.symm hsm)
              have hk0 : 0 ≤ (k : Int) - (m : Int) + 1 := by have := SC.out.le; omega
              have Hsm := Lib.hid hsm
              clear hsm
              go_wp2_with fail
              refine hhas.mono ?_; clear hhas; rintro e w4 ⟨rfl, hw4⟩
              obtain rfl : wr = w4 := hw4.symm
              go_wp2_with fail
              go_roundw
              case rel => exact ⟨s + 1, k + 1, _, by omega, by go_num, by go_num, rfl, by have := Hsm.out; omega, .inr ⟨hk0, HF.out⟩, trivial⟩
              case measure => simp [intOf]; omega
            · have hz : ((s : Int) + 1 == (m : Int)) = false := by simp; omega
              have HF := Lib.hid (SC.out.more Hy.out.symm (by have := SC.out.lt; omega))
              have Hsm := Lib.hid (show s + 1 ≤ 200 by have := SC.out.lt; omega)
              clear hsm
              go_wp2_with fail
              refine hhas.mono ?_; clear hhas; rintro e w4 ⟨rfl, hw4⟩
              obtain rfl : wr = w4 := hw4.symm
              go_wp2_with fail
              go_roundw
              case rel => exact ⟨s + 1, k + 1, _, by omega, by go_num, by go_num, rfl, Hsm.out, .inl ⟨rfl, HF.out⟩, trivial⟩
              case measure => simp [intOf]; omega
          · have hz : ((0 : Int) == (m : Int)) = false := by simp; omega
            have HF := Lib.hid (SC.out.taken Hy.out.symm)
            go_wp2_with fail
            refine hhas.mono ?_; clear hhas; rintro e w4 ⟨rfl, hw4⟩
            obtain rfl : wr = w4 := hw4.symm
            go_wp2_with fail
            go_roundw
            case rel => exact ⟨0, k + 1, _, by omega, by go_num, rfl, rfl, by omega, .inl ⟨rfl, HF.out⟩, trivial⟩
            case measure => simp [intOf]; omega
        · have hzr : IsRunL (plc n a0 f false) m z := by
            rcases hsc with ⟨e, h⟩ | ⟨_, h⟩
            · have : ¬ k < n := fun e2 => hgo ⟨e2, e⟩
              rw [e]
              exact h.end_ (by omega) hm1
            · exact h
          have hzz : at_ = z := by
            have := Hrc.out
            rw [Hpl.out] at this
            exact this.one hzr
          subst hzz
          by_cases hkn : k < n
          · have hz0 : ¬ at_ < 0 := by omega
            have hkni : (k : Int) < (n : Int) := by omega
            clear hsc hgo hzr
            have hfirst := first_any _ n f x2 b2.2 wr P3.out.mp (HN.out.keep B3.out)
            have hrun1 := run_z _ n f x2 1 b2.2 wr P3.out.mp (HN.out.keep B3.out)
            rw [run_one_first] at hrun1
            obtain ⟨y, hy⟩ : ∃ y, y = headZ (plc n x2.toNat f false) := ⟨_, rfl⟩
            rw [← hy] at hrun1 hfirst
            clear hy
            go_wp2_with fail
            refine hfirst.mono ?_; clear hfirst; rintro e w4 ⟨rfl, hw4⟩
            obtain rfl : wr = w4 := hw4.symm
            go_wp2_with fail
            refine hrun1.mono ?_; clear hrun1; rintro e w5 ⟨rfl, hb5⟩
            have P5 := Lib.hid (P3.out.later hb5)
            have B5 := Lib.hid (B3.out.trans (hb5.mono B3.out.size))
            have hrun0 := run_z _ n f x2 0 b2.2 w5 P5.out.mp (HN.out.keep B5.out)
            rw [run_none] at hrun0
            clear hb5
            go_wp2_with fail
            refine hrun0.mono ?_; clear hrun0; rintro e w6 ⟨rfl, hb6⟩
            have B6 := Lib.hid (B5.out.trans (hb6.mono B5.out.size))
            have htk := tk12_at HN.out B6.out
            clear hb6
            go_wp2_with fail
            refine htk.mono ?_; clear htk; rintro e w7 ⟨rfl, hb7⟩
            have B7 := Lib.hid (B6.out.trans (hb7.mono B6.out.size))
            clear hb7
            go_wp2_with fail
            go_ret
            exact ⟨rfl, B7.out⟩
          · have hkni : ¬ (k : Int) < (n : Int) := by omega
            clear hsc hgo hzr
            have hfirst := first_any _ n f x2 b2.2 wr P3.out.mp (HN.out.keep B3.out)
            have hrun1 := run_z _ n f x2 1 b2.2 wr P3.out.mp (HN.out.keep B3.out)
            rw [run_one_first] at hrun1
            obtain ⟨y, hy⟩ : ∃ y, y = headZ (plc n x2.toNat f false) := ⟨_, rfl⟩
            rw [← hy] at hrun1 hfirst
            clear hy
            go_wp2_with fail
            refine hfirst.mono ?_; clear hfirst; rintro e w4 ⟨rfl, hw4⟩
            obtain rfl : wr = w4 := hw4.symm
            go_wp2_with fail
            refine hrun1.mono ?_; clear hrun1; rintro e w5 ⟨rfl, hb5⟩
            have P5 := Lib.hid (P3.out.later hb5)
            have B5 := Lib.hid (B3.out.trans (hb5.mono B3.out.size))
            have hrun0 := run_z _ n f x2 0 b2.2 w5 P5.out.mp (HN.out.keep B5.out)
            rw [run_none] at hrun0
            clear hb5
            go_wp2_with fail
            refine hrun0.mono ?_; clear hrun0; rintro e w6 ⟨rfl, hb6⟩
            have B6 := Lib.hid (B5.out.trans (hb6.mono B5.out.size))
            have htk := tk12_at HN.out B6.out
            clear hb6
            go_wp2_with fail
            refine htk.mono ?_; clear htk; rintro e w7 ⟨rfl, hb7⟩
            have B7 := Lib.hid (B6.out.trans (hb7.mono B6.out.size))
            clear hb7
            go_wp2_with fail
            go_ret
            exact ⟨rfl, B7.out⟩
end Go.Proofs.YthkflghekgbgcaaDoor

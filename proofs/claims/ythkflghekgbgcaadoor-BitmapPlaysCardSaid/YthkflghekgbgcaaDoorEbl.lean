/-
  The walk of BitmapLeast. Condition: the table reads as the row lists it ('Tz').
-/
import Derived.Test.YthkflghekgbgcaaDoorEbk
namespace Go.Proofs.YthkflghekgbgcaaDoor
open Go.RowKit Go.Proofs
set_option linter.unusedVariables false

theorem cnt_put {n i : Nat} {f : Nat → Bool} (hi : i < n) (hf : f i = false) : cntL n (putB f i true) = cntL n f + 1 := by
  have e1 : plc i 0 (putB f i true) true = plc i 0 f true := plc_congr fun j _ hj => by rw [putB, if_neg (by omega)]
  have e2 : plc n (i + 1) (putB f i true) true = plc n (i + 1) f true := plc_congr fun j hj _ => by rw [putB, if_neg (by omega)]
  rw [cntL, cntL, plc_split (Nat.zero_le i) (Nat.le_of_lt hi), plc_split (f := f) (Nat.zero_le i) (Nat.le_of_lt hi), plc_step_yes hi (by rw [putB, if_pos rfl]), plc_step_no (f := f) hi (by rw [hf]; rfl), e1, e2]
  simp
  omega
theorem set_free {n p : Nat} {f : Nat → Bool} (hp : p < n) (hf : f p = false) : setB n f (p : Int) true = true ∧ setF n f (p : Int) true = putB f p true := by
  have h : inB n (p : Int) = true := by simp [inB]; omega
  rw [setB, setF, h, if_pos rfl, Int.toNat_natCast, hf]
  exact ⟨rfl, rfl⟩
theorem free_len {n : Nat} {f : Nat → Bool} : cntL n f + (plc n 0 f false).length = n := plc_both n
theorem leastD_no {n : Nat} {f : Nat → Bool} {y : Int} (h : y < 1 ∨ (n : Int) - (cntL n f : Int) < y) : leastD n f y = [] := by
  unfold leastD
  split
  · rfl
  · have := free_len (n := n) (f := f)
    rw [leastL, if_neg (by omega)]
/-- The m least free places, taken one after another. -/
structure Lt12 (n m : Nat) (f0 : Nat → Bool) (l : List Nat) : Prop where
  len : l.length = m
  free : ∀ i, i < m → l.getD i 0 < n ∧ f0 (l.getD i 0) = false
  new : ∀ i, i < m → l.getD i 0 ∉ l.take i
  all : 1 ≤ m → ∀ j, j ≤ l.getD (m - 1) 0 → f0 j = true ∨ j ∈ l
theorem leastD_yes {n : Nat} {f : Nat → Bool} {m : Nat} (h1 : 1 ≤ m) (h : m + cntL n f ≤ n) : Lt12 n m f (leastD n f (m : Int)) := by
  have hfl := free_len (n := n) (f := f)
  have e : leastD n f (m : Int) = (plc n 0 f false).take m := by
    rw [leastD, if_neg (by omega), Int.toNat_natCast, leastL, if_pos (by omega)]
  rw [e]
  have hup := plc_up (n := n) (a := 0) (f := f) (t := false)
  have hmem := fun x => plc_mem (n := n) (a := 0) (f := f) (t := false) (i := x)
  obtain ⟨l, hl⟩ : ∃ l, l = plc n 0 f false := ⟨_, rfl⟩
  rw [← hl] at hup hmem hfl ⊢
  have hlen : (l.take m).length = m := by rw [List.length_take]; omega
  have hget : ∀ i, i < m → (l.take m).getD i 0 = l.getD i 0 := by
    intro i hi
    rw [List.getD_eq_getElem?_getD, List.getElem?_take_of_lt hi, List.getD_eq_getElem?_getD]
  refine ⟨hlen, fun i hi => ?_, fun i hi hm => ?_, fun _ j hj => ?_⟩
  · rw [hget i hi]
    have := (hmem _).1 (up_mem (l := l) (i := i) (by omega))
    exact ⟨this.2.1, this.2.2⟩
  · rw [hget i hi] at hm
    obtain ⟨k, hk, e⟩ := up_at hm
    rw [List.length_take, List.length_take] at hk
    have e2 : ((l.take m).take i).getD k 0 = l.getD k 0 := by
      rw [List.getD_eq_getElem?_getD, List.getElem?_take_of_lt (by omega), ← List.getD_eq_getElem?_getD, hget k (by omega)]
    rw [e2] at e
    have := up_lt hup (i := k) (j := i) (by omega) (by omega)
    omega
  · rw [hget (m - 1) (by omega)] at hj
    have hb := (hmem _).1 (up_mem (l := l) (i := m - 1) (by omega))
    cases hf : f j
    · right
      obtain ⟨k, hk, e⟩ := up_at ((hmem j).2 ⟨Nat.zero_le _, by omega, hf⟩)
      have hkm : k < m := by
        rcases Nat.lt_or_ge k m with h' | h'
        · exact h'
        · have := up_lt hup (i := m - 1) (j := k) hk (by omega)
          omega
      rw [← e, ← hget k hkm]
      exact up_mem (by rw [hlen]; exact hkm)
    · left; rfl
/-- So many of them are taken. -/
structure Tk12 (n : Nat) (f0 : Nat → Bool) (l : List Nat) (i : Nat) (f : Nat → Bool) : Prop where
  is : ∀ j, j < n → f j = (f0 j || decide (j ∈ l.take i))
  cnt : cntL n f = cntL n f0 + i
theorem Tk12.next {n m i : Nat} {f0 f : Nat → Bool} {l : List Nat} (h : Tk12 n f0 l i f) (hl : Lt12 n m f0 l) (hi : i < m) : f (l.getD i 0) = false ∧ Tk12 n f0 l (i + 1) (putB f (l.getD i 0) true) := by
  obtain ⟨h1, h2⟩ := hl.free i hi
  have h3 : f (l.getD i 0) = false := by rw [h.is _ h1, h2, decide_eq_false (hl.new i hi)]; rfl
  have hil : i < l.length := by rw [hl.len]; exact hi
  have e : l.take (i + 1) = l.take i ++ [l.getD i 0] := by
    rw [List.getD_eq_getElem?_getD, List.getElem?_eq_getElem hil]
    simp
  refine ⟨h3, fun j hj => ?_, by rw [cnt_put h1 h3, h.cnt]; omega⟩
  rw [putB, e]
  by_cases hjl : j = l.getD i 0
  · rw [if_pos hjl, decide_eq_true (by rw [hjl]; simp), Bool.or_true]
  · rw [if_neg hjl, h.is j hj]
    congr 1
    rw [decide_eq_decide]
    constructor
    · intro hm; exact List.mem_append_left _ hm
    · intro hm
      rcases List.mem_append.1 hm with h' | h'
      · exact h'
      · exact absurd (List.mem_singleton.1 h') hjl

set_option maxRecDepth 20000 in
set_option maxHeartbeats 3200000 in
theorem bitmapLeast_walk (x0 : Int) (A1 : Option Addr) (p1 : Nat) (x1 : List Int) (x2 : Int) (W : World) (b0 : -9223372036854775808 ≤ x0 ∧ x0 < 9223372036854775808) (b2 : -9223372036854775808 ≤ x2 ∧ x2 < 9223372036854775808) (h1 : Sl W 1 A1 x1.length p1 (icells x1)) (hN : Tz W) :
    Calls Tryd.prog 5 #[.int .i64 x0, .slice A1 x1.length p1, .int .i64 x2] W (SaysTrue W) := by
  obtain ⟨q, hq⟩ : ∃ q, q = x1.length := ⟨_, rfl⟩
  have h1' := h1
  rw [← hq] at h1' ⊢
  have H1 := Lib.hid h1'
  have Hq := Lib.hid hq
  have HN := Lib.hid hN
  have htk := tk12_any W hN
  clear h1 h1' hq hN
  by_cases c1 : x0 < 0
  case pos =>
    go_enter Tryd.func5, Tryd.ntmps5
    go_wp2_with fail
    refine htk.mono ?_; clear htk; rintro e w1 ⟨rfl, hb⟩
    go_wp2_with fail
    go_ret
    exact ⟨rfl, hb⟩
  by_cases c2 : 300 < x0
  case pos =>
    go_enter Tryd.func5, Tryd.ntmps5
    go_wp2_with fail
    refine htk.mono ?_; clear htk; rintro e w1 ⟨rfl, hb⟩
    go_wp2_with fail
    go_ret
    exact ⟨rfl, hb⟩
  by_cases c3 : (300 : Int) < (q : Int)
  case pos =>
    go_enter Tryd.func5, Tryd.ntmps5
    go_wp2_with fail
    refine htk.mono ?_; clear htk; rintro e w1 ⟨rfl, hb⟩
    go_wp2_with fail
    go_ret
    exact ⟨rfl, hb⟩
  clear htk
  obtain ⟨n, rfl⟩ : ∃ n : Nat, x0 = (n : Int) := ⟨x0.toNat, by omega⟩
  have hnew := new_yes n (by omega) W
  have hn300 : n ≤ 300 := by omega
  clear c1
  go_enter Tryd.func5, Tryd.ntmps5
  go_wp2_with fail
  refine hnew.mono ?_; clear hnew; rintro e w1 ⟨M, B, rfl, hp, hb, hM, hB⟩
  have P1 := Lib.hid hp
  have B1 := Lib.hid hb
  have HB := Lib.hid hB
  clear hp hb hM hB
  go_wp2_with fail
  go_loopw [8] (fun i wr => ∃ (j : Nat) (f : Nat → Bool), j ≤ q ∧ i = .int .i64 (j : Int) ∧ Bp wr M B n f ∧ Below W.heap.size W wr) (fun i _ => q - (intOf i).toNat)
  case atStart => exact ⟨0, _, by omega, rfl, P1.out, B1.out⟩
  case round =>
    obtain ⟨j, f, hj, rfl, hp, hb⟩ := hrel
    have P := Lib.hid hp
    have Bb := Lib.hid hb
    clear hp hb
    by_cases hlt : j < q
    · obtain ⟨b, o, rfl, hc⟩ := (H1.out.below Bb.out (Nat.le_refl _)).at_ hlt
      have hcell := hc j _ (icells_get x1 j (by rw [← Hq.out]; exact hlt))
      obtain ⟨x, hx⟩ : ∃ x, x = x1[j]'(by rw [← Hq.out]; exact hlt) := ⟨_, rfl⟩
      rw [← hx] at hcell
      have hset := set_any M B n x f true wr P.out
      have hji : (j : Int) < (q : Int) := by omega
      obtain ⟨y, hy⟩ : ∃ y, y = setB n f x true := ⟨_, rfl⟩
      rw [← hy] at hset
      clear hc hx hy
      go_wp2_with fail
      refine hset.mono ?_; clear hset; rintro e w2 ⟨rfl, hp2, hf2⟩
      have hb2 : Below W.heap.size W w2 := Bb.out.trans (hf2.below Bb.out.size (fun k hk => by have hk : k = B := hk; have := HB.out; omega))
      have P2 := Lib.hid hp2
      have B2 := Lib.hid hb2
      clear hp2 hf2 hb2 hcell
      go_wp2_with fail
      go_roundw
      case rel => exact ⟨j + 1, _, by omega, by go_num, P2.out, B2.out⟩
      case measure => simp [intOf]; omega
    · have hji : ¬ (j : Int) < (q : Int) := by omega
      have hcp := copy_any M B n f wr P.out
      go_wp2_with fail
      refine hcp.mono ?_; clear hcp; rintro e w3 ⟨M2, B2, rfl, hp3, hb3, hM2, hB2⟩
      have P3 := Lib.hid (P.out.later hb3)
      have C3 := Lib.hid hp3
      have HMB := Lib.hid (show B < M2 ∧ B < B2 by have := P.out.ltB; omega)
      have Bb3 := Lib.hid (Bb.out.trans (hb3.mono Bb.out.size))
      clear hp3 hb3 hM2 hB2
      have hcnt := count_any _ n f w3 P3.out.mp (HN.out.keep Bb3.out)
      obtain ⟨h, hh⟩ : ∃ h, h = cntL n f := ⟨_, rfl⟩
      have hfree := free_len (n := n) (f := f)
      rw [← hh] at hcnt hfree
      have Hh := Lib.hid hh
      have hhn : h ≤ n := by omega
      clear hh
      have hles := least_z _ n f x2 b2.2 w3 P3.out.mp (HN.out.keep Bb3.out)
      obtain ⟨l, hl⟩ : ∃ l, l = leastD n f x2 := ⟨_, rfl⟩
      rw [← hl] at hles
      have Hl := Lib.hid hl
      obtain ⟨ql, hql⟩ : ∃ ql, ql = l.length := ⟨_, rfl⟩
      have Hql := Lib.hid hql
      clear hl hql
      go_wp2_with fail
      refine hcnt.mono ?_; clear hcnt; rintro e w4 ⟨rfl, hw4⟩
      obtain rfl : w3 = w4 := hw4.symm
      go_wp2_with fail
      refine hles.mono ?_; clear hles; rintro e w5 ⟨A5, c5, rfl, ho5, hb5, hl5⟩
      have hs5 := ho5.sl
      rw [← Hql.out] at hs5 ⊢
      have S5 := Lib.hid hs5
      have P5 := Lib.hid (P3.out.later hb5)
      have C5 := Lib.hid (C3.out.later hb5)
      have B5 := Lib.hid (Bb3.out.trans (hb5.mono Bb3.out.size))
      have L5 := Lib.hid (show ∀ b o, A5 = some ⟨b, o, none⟩ → B < b from fun b o e => by have := hl5 b o e; have := P3.out.ltB; omega)
      clear ho5 hb5 hl5 hs5
      have htk5 := tk12_at HN.out B5.out
      by_cases hno : x2 < 1 ∨ (n : Int) - (h : Int) < x2
      · have hl0 : ql = 0 := by rw [Hql.out, Hl.out, leastD_no (by rw [← Hh.out]; exact hno)]; rfl
        subst hl0
        rcases hno with hno | hno
        all_goals
          try by_cases hno1 : x2 < 1
          all_goals
            go_wp2_with fail
            refine htk5.mono ?_; clear htk5; rintro e w7 ⟨rfl, hb7⟩
            have B7 := Lib.hid (B5.out.trans (hb7.mono B5.out.size))
            clear hb7
            go_wp2_with fail
            go_ret
            exact ⟨rfl, B7.out⟩
      · have hx1 : ¬ x2 < 1 := fun e => hno (.inl e)
        have hx2 : ¬ (n : Int) - (h : Int) < x2 := fun e => hno (.inr e)
        clear hno htk5
        obtain ⟨m, rfl⟩ : ∃ m : Nat, x2 = (m : Int) := ⟨x2.toNat, by omega⟩
        have HL := Lib.hid (show Lt12 n m f l by rw [Hl.out]; exact leastD_yes (by omega) (by rw [← Hh.out]; omega))
        obtain rfl : ql = m := by rw [Hql.out]; exact HL.out.len
        have hmne : ((ql : Int) != (ql : Int)) = false := by simp
        go_wp2_with fail
        go_loopw [12] (fun i wx => ∃ (k : Nat) (g : Nat → Bool), k ≤ ql ∧ i = .int .i64 (k : Int) ∧ Bp wx M B n g ∧ Bp wx M2 B2 n f ∧ Sl wx 1 A5 ql c5 (ncells l) ∧ Tk12 n f l k g ∧ Below W.heap.size W wx) (fun i _ => ql - (intOf i).toNat)
        case atStart => exact ⟨0, f, by omega, rfl, P5.out, C5.out, S5.out, ⟨fun j _ => by simp, by omega⟩, B5.out⟩
        case round =>
          obtain ⟨k, g, hk, rfl, hp6, hc6, hs6, ht6, hb6⟩ := hrel
          have P6 := Lib.hid hp6
          have C6 := Lib.hid hc6
          have S6 := Lib.hid hs6
          have T6 := Lib.hid ht6
          have B6 := Lib.hid hb6
          clear hp6 hc6 hs6 ht6 hb6
          by_cases hkq : k < ql
          · obtain ⟨b, o, rfl, hc⟩ := S6.out.at_ hkq
            have hcell := hc k _ (ncells_get l k (by rw [← Hql.out]; exact hkq))
            rw [show l[k]'(by rw [← Hql.out]; exact hkq) = l.getD k 0 from by simp [show k < l.length by rw [← Hql.out]; exact hkq]] at hcell
            obtain ⟨hgp, htn⟩ := T6.out.next HL.out hkq
            obtain ⟨hpn, hpf⟩ := HL.out.free k hkq
            have hsf := set_free hpn hgp
            have hset := set_any M B n ((l.getD k 0 : Nat) : Int) g true wr P6.out
            rw [hsf.1, hsf.2] at hset
            have hhas := has_any _ n g ((l.getD k 0 : Nat) : Int) wr P6.out.mp
            rw [Int.toNat_natCast, hgp, Bool.and_false] at hhas
            obtain ⟨p, hp⟩ : ∃ p, p = l.getD k 0 := ⟨_, rfl⟩
            rw [← hp] at hcell hset hhas hpn htn
            have hpi : ¬ (n : Int) ≤ (p : Int) := by omega
            have HTn := Lib.hid htn
            have hki : (k : Int) < (ql : Int) := by omega
            have HbB := Lib.hid (L5.out b o rfl)
            clear hc hgp htn hpf hsf hp
            go_wp2_with fail
            refine hhas.mono ?_; clear hhas; rintro e w6 ⟨rfl, hw6⟩
            obtain rfl : wr = w6 := hw6.symm
            go_wp2_with fail
            refine hset.mono ?_; clear hset; rintro e w7 ⟨rfl, hp7, hf7⟩
            have P7 := Lib.hid hp7
            have C7 := Lib.hid (C6.out.fr hf7 (fun e => by have e : M2 = B := e; have := HMB.out.1; omega) (fun e => by have e : B2 = B := e; have := HMB.out.2; omega))
            have S7 := Lib.hid (S6.out.fr hf7 (fun b' o' _ hA e => by have e : b' = B := e; injection hA with hA; injection hA with hA _; have := HbB.out; omega))
            have B7 := Lib.hid (B6.out.trans (hf7.below B6.out.size (fun k hk => by have hk : k = B := hk; have := HB.out; omega)))
            clear hp7 hf7 hcell
            go_wp2_with fail
            go_roundw
            case rel => exact ⟨k + 1, _, by omega, by go_num, P7.out, C7.out, S7.out, HTn.out, B7.out⟩
            case measure => simp [intOf]; omega
          · obtain rfl : k = ql := by omega
            have hki : ¬ (k : Int) < (k : Int) := by omega
            have hk1 : 1 ≤ k := by omega
            obtain ⟨b, o, rfl, hc⟩ := S6.out.at_ (k := k - 1) (by omega)
            have hkl : k - 1 < l.length := by rw [← Hql.out]; omega
            have hcell := hc (k - 1) _ (ncells_get l (k - 1) hkl)
            rw [show l[k - 1]'hkl = l.getD (k - 1) 0 from by simp [hkl]] at hcell
            have hall := HL.out.all hk1
            obtain ⟨hpn, _⟩ := HL.out.free (k - 1) (by omega)
            have htake : l.take k = l := List.take_of_length_le (by rw [← Hql.out]; exact Nat.le_refl _)
            have hgall : ∀ j, j ≤ l.getD (k - 1) 0 → g j = true := by
              intro j hj
              rw [T6.out.is j (by omega), htake]
              rcases hall j hj with e | e
              · rw [e]; rfl
              · rw [decide_eq_true e, Bool.or_true]
            obtain ⟨p, hp⟩ : ∃ p, p = l.getD (k - 1) 0 := ⟨_, rfl⟩
            rw [← hp] at hcell hpn hgall
            have hk1i : ((k : Int) - 1).toNat = k - 1 := by omega
            have hk0i : 0 ≤ (k : Int) - 1 := by omega
            have hk2i : (k : Int) - 1 < (k : Int) := by omega
            have HG := Lib.hid hgall
            have HC := Lib.hid hcell
            clear hc hall htake hgall hp hkl
            go_wp2_with fail
            obtain ⟨wo, rfl⟩ : ∃ x, x = wr := ⟨_, rfl⟩
            go_loopw [13] (fun i wy => ∃ j : Nat, j ≤ p + 1 ∧ i = .int .i64 (j : Int) ∧ wy = wo) (fun i _ => p + 1 - (intOf i).toNat)
            case atStart => exact ⟨0, by omega, rfl, rfl⟩
            case round =>
              obtain ⟨j, hjp, rfl, rfl⟩ := hrel
              have hcell := HC.out
              by_cases hjl : j ≤ p
              · have hji2 : (j : Int) ≤ (p : Int) := by omega
                have hhas := has_any _ n g (j : Int) wr P6.out.mp
                rw [show inB n (j : Int) = true by simp [inB]; omega, Bool.true_and, Int.toNat_natCast, HG.out j hjl] at hhas
                go_wp2_with fail
                refine hhas.mono ?_; clear hhas; rintro e w8 ⟨rfl, hw8⟩
                obtain rfl : wr = w8 := hw8.symm
                go_wp2_with fail
                go_roundw
                case rel => exact ⟨j + 1, by omega, by go_num, trivial⟩
                case measure => simp [intOf]; omega
              · have hji2 : ¬ (j : Int) ≤ (p : Int) := by omega
                have hcnt := count_any _ n g wr P6.out.mp (HN.out.keep B6.out)
                rw [show ((cntL n g : Nat) : Int) = (h : Int) + (k : Int) by rw [T6.out.cnt, ← Hh.out]; omega] at hcnt
                have hcnt2 := count_any _ n f wr C6.out.mp (HN.out.keep B6.out)
                rw [← Hh.out] at hcnt2
                have htk := tk12_at HN.out B6.out
                go_wp2_with fail
                refine hcnt.mono ?_; clear hcnt; rintro e w8 ⟨rfl, hw8⟩
                obtain rfl : wr = w8 := hw8.symm
                go_wp2_with fail
                refine hcnt2.mono ?_; clear hcnt2; rintro e w9 ⟨rfl, hw9⟩
                obtain rfl : wr = w9 := hw9.symm
                go_wp2_with fail
                refine htk.mono ?_; clear htk; rintro e w10 ⟨rfl, hb10⟩
                have B10 := Lib.hid (B6.out.trans (hb10.mono B6.out.size))
                clear hb10
                go_wp2_with fail
                go_ret
                exact ⟨rfl, B10.out⟩
end Go.Proofs.YthkflghekgbgcaaDoor

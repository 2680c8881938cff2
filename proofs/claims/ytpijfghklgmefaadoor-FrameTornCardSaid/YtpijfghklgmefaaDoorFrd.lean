/-
  Contracts of package frame's Cut, Join and All. Conditions: bounds; of sums: the table reads as the row lists it ('Nt').
-/
import Derived.Test.YtpijfghklgmefaaDoorFrc
import Derived.Deep.DeepCutAuto
import Derived.Deep.LoopGhost
import Derived.RegionTactic
import Derived.Outline
namespace Go.Proofs.YtpijfghklgmefaaDoor
open Go.RowKit Go.Proofs
set_option linter.unusedVariables false
set_option maxRecDepth 20000
set_option maxHeartbeats 3200000

theorem cut17_no (A : Option Addr) (n c : Nat) (room : Int) (hr : ¬ (8 ≤ room ∧ room ≤ 65535)) (w : World) :
    Calls Tryd.prog 11 #[.slice A n c, .int .i64 room] w fun e w' => e = .returned (.tuple #[.slice none 0 0, .int .i64 2]) ∧ w = w' := by
  by_cases h8 : room < 8
  all_goals
    try have h9 : 65535 < room := by omega
    go_enter Tryd.func11, Tryd.ntmps11
    go_wp2_with fail
    go_ret2
    exact ⟨rfl, rfl⟩
theorem Sl.sub17 {w : World} {n c : Nat} {A : Option Addr} {l : List UInt8} (h : Sl w 1 A n c (cells l)) (lo hi : Nat) (h1 : lo ≤ hi) (h2 : hi ≤ n) : Sl w 1 (if c = lo then A else A.map fun x => x.add lo) (hi - lo) (c - lo) (cells ((l.drop lo).take (hi - lo))) := by
  have hc := h.cap
  have ht := h.top
  split
  · obtain rfl : hi = lo := by omega
    rw [Nat.sub_self, List.take_zero]
    exact ⟨rfl, by omega, by omega, fun j u hu => by simp [cells] at hu⟩
  · exact h.sub1 lo hi (c - lo) h1 h2 (by omega) (by omega)
theorem take_part {l : List UInt8} {n i long : Nat} (hl : l.length = n) : (l.drop (i * long)).take (min ((i + 1) * long) n - i * long) = (l.drop (i * long)).take long := by
  have e : (i + 1) * long = i * long + long := by rw [Nat.add_mul, Nat.one_mul]
  rw [e]
  rcases Nat.le_total (i * long + long) n with h | h
  · rw [Nat.min_eq_left h, Nat.add_sub_cancel_left]
  · rw [Nat.min_eq_right h, List.take_of_length_le (by rw [List.length_drop]; omega), List.take_of_length_le (by rw [List.length_drop]; omega)]
theorem EncS.put17 {w0 w1 w2 : World} {g m : Nat} {cur : Array Value} {ps : List (List UInt8)} (h : EncS w0 g m cur ps w1) (hb : Below w1.heap.size w1 w2) {k : Nat} (hk : ps.length = k) (hkm : k < m) {A : Option Addr} {c : Nat} {r : List UInt8}
    (hs : Sl w2 1 A r.length c (cells r)) (hm : Mine w2 w1.heap.size 5 A r.length (cells r)) :
    EncS w0 g m (cur.setIfInBounds k (.slice A r.length c)) (ps ++ [r]) (w2.setCell ⟨g, k, none⟩ (.slice A r.length c)) ∧ Sl (w2.setCell ⟨g, k, none⟩ (.slice A r.length c)) 1 A r.length c (cells r) := by
  have h2 := h.later hb
  have hg1 := block_lt h.fil.row
  have hf : Fr (fun k => k = g) w2 (w2.setCell ⟨g, k, none⟩ (.slice A r.length c)) := Fr.setCell (S := fun k => k = g) (Fr.refl _ _) (.inr rfl) _
  have hA : ∀ b o, 0 < r.length → A = some ⟨b, o, none⟩ → b ≠ g := fun b o hn e => by
    obtain ⟨g', cur', e', hB, _⟩ := hm hn
    rw [e] at e'
    injection e' with e'
    injection e' with e' _
    omega
  exact ⟨h2.store hk hkm hf (heap_setCell_same w2 g k _ _ _ h2.fil.row) hs hA (h.sep.later hb) (by omega) hb.size hm, hs.fr hf fun b o hn e hk => hA b o hn e hk⟩
theorem or2_mk (a : Bool) : bits .or .u8 ((mkF a false).toNat : Int) 2 = ((mkF a true).toNat : Int) := by cases a <;> decide
theorem cut17_none (A : Option Addr) (c : Nat) (room : Int) (long : Nat) (hr : room = (long : Int) + 7) (h1 : 1 ≤ long) (h2 : long ≤ 65528) (w : World) (hc : c ≤ maxLen) (hN : Nt w) :
    Calls Tryd.prog 11 #[.slice A 0 c, .int .i64 room] w fun e w' => ∃ g k, e = .returned (.tuple #[.slice (some ⟨g, 0, none⟩) k k, .int .i64 0]) ∧ Gm w' w.heap.size (some ⟨g, 0, none⟩) k k (cutF long []) ∧ Below w.heap.size w w' := by
  have NN := Lib.hid hN
  have HCC := Lib.hid hc
  have hmk1 := fun W => makes_eq 1 1 rfl (by decide) W
  have r1 : ¬ room < 8 := by omega
  have r2 : ¬ 65535 < room := by omega
  have e0 : room - 7 = (long : Int) := by omega
  have e1 : ¬ (long : Int) = 0 := by omega
  have e2 : ¬ (long : Int) < 0 := by omega
  clear hN hc hr
  have hz : (0 : Int) / (long : Int) = 0 := by simp
  by_cases hc0 : c = 0
  all_goals
    try subst hc0
    try have hc1 : ¬ (c : Int) = 0 := by omega
    go_enter Tryd.func11, Tryd.ntmps11
    go_wp2_with fail
    obtain ⟨wm, hwm⟩ : ∃ x, x = w.alloc (.cells (madeCells #[.slice none 0 0] 1) 26) := ⟨_, rfl⟩
    obtain ⟨g, hg⟩ : ∃ g, g = w.heap.size := ⟨_, rfl⟩
    have hen : EncS w g 1 (madeCells #[.slice none 0 0] 1) [] wm := by
      rw [hwm, hg]
      exact ⟨⟨(Below.refl _ _).alloc (Nat.le_refl _) _, Fil.made w 1, Nat.le_refl _⟩, Sep.nil _ _ _ _⟩
    rw [← hwm, ← hg]
    have EN := Lib.hid hen
    clear hen hwm hg
    go_loopw [8, 29] (fun sv iv wr => ∃ (i : Nat) (s : W32) (cur : Array Value) (ps : List (List UInt8)), sv = .int .u32 (s.toNat : Int) ∧ iv = .int .i64 (i : Int) ∧ (i = 0 ∧ ps = [] ∧ s = 0 ∨ i = 1 ∧ ps = [pcF (mkF true true) [] 0]) ∧ EncS w g 1 cur ps wr) (fun _ iv _ => 1 - (intOf iv).toNat)
    case atStart => exact ⟨0, 0, _, [], rfl, rfl, .inl ⟨rfl, rfl, rfl⟩, EN.out⟩
    case round =>
      obtain ⟨i, s, cur, ps, hov, hlv, hi, hen⟩ := hrel
      subst hov hlv
      have ENR := Lib.hid hen
      clear EN hen
      rcases hi with ⟨hi, hps, hs0⟩ | ⟨hi, hps⟩
      · subst hi hps hs0
        go_wp2_with fail
        refine (piece_at _ (mkF true true) (by decide) _ 0 _ [] 0 wr (Sl.empty _ _ _ _ (by have := HCC.out; omega)) (by decide) (NN.out.keep ENR.out.bel)).mono ?_; rintro e w1 ⟨A5, n5, c5, rfl, hs5, hb5, hm5⟩
        obtain ⟨r, hr⟩ : ∃ r, r = pcF (mkF true true) [] 0 := ⟨_, rfl⟩
        have hr7 : 7 ≤ r.length := by rw [hr, pcF_len]; omega
        rw [← hr] at hs5 hm5
        obtain rfl : n5 = r.length := by have := hs5.len; rw [cells_length] at this; omega
        have hput := ENR.out.put17 hb5 (k := 0) rfl (by decide) hs5 hm5
        have htd := told_any A5 r.length c5 r _ hput.2 hr7
        have hen2 := ENR.out.later hb5
        obtain ⟨v0, hv0⟩ := hen2.fil.has (i := 0) (by decide)
        have hf0 := hen2.fil.free 0
        have hc2 := cell_of_row _ _ 0 _ _ _ hput.1.fil.row
        rw [Array.getElem?_setIfInBounds, if_pos rfl, if_pos (by rw [ENR.out.fil.size]; decide)] at hc2
        have HP := Lib.hid hput
        have HR := Lib.hid hr
        clear hs5 hm5 hb5 hput hen2 hr
        go_wp2_with fail
        refine htd.mono ?_; clear htd; rintro e w2 ⟨rfl, hw2⟩
        obtain rfl := hw2
        go_wp2_with fail
        go_roundw
        case rel => exact ⟨1, _, _, _, rfl, by go_num, .inr ⟨rfl, by rw [HR.out]; rfl⟩, HP.out.1⟩
        case measure => simp [intOf]
      · subst hi
        go_wp2_with fail
        go_ret2
        refine ⟨g, 1, rfl, ?_, ENR.out.bel⟩
        have e : cutF long [] = ps := by rw [hps, cutF]; simp [manyF, cutN]
        rw [e]
        exact ENR.out.gm (by rw [hps]; rfl) (by decide)
theorem cut17_some (A : Option Addr) (n c : Nat) (l : List UInt8) (room : Int) (long : Nat) (hr : room = (long : Int) + 7) (h1 : 1 ≤ long) (h2 : long ≤ 65528) (w : World) (h : Sl w 1 A n c (cells l)) (hn : n ≤ 100000) (hn0 : 0 < n) (hN : Nt w) :
    Calls Tryd.prog 11 #[.slice A n c, .int .i64 room] w fun e w' => ∃ g k, e = .returned (.tuple #[.slice (some ⟨g, 0, none⟩) k k, .int .i64 0]) ∧ Gm w' w.heap.size (some ⟨g, 0, none⟩) k k (cutF long l) ∧ Below w.heap.size w w' := by
  have hl := h.len
  rw [cells_length, Nat.mul_one] at hl
  obtain ⟨k, hk⟩ : ∃ k, k = manyF long n := ⟨_, rfl⟩
  have HKM := Lib.hid hk
  have hkn : k ≤ n + 1 := by rw [hk]; unfold manyF; have := Nat.div_le_self (n - 1) long; omega
  have hk0 : 0 < k := by rw [hk]; exact manyF_pos _ _
  have hkl : k * long ≤ 200000 := by
    rw [hk]
    unfold manyF
    rw [Nat.add_mul, Nat.one_mul]
    have := Nat.div_mul_le_self (n - 1) long
    omega
  have hst := CutAt.start long k l (by rw [hl, hk]; exact manyF_le (by omega))
  have hmk := fun W => makes_eq (k : Int) k rfl (by omega) W
  have HC := Lib.hid (show cutF long l = cutN long k true 0 l from by rw [cutF, hl, hk])
  have hq : ((n - 1 : Nat) : Int).tdiv (long : Int) + 1 = (k : Int) := by
    rw [hk, manyF]
    rw [Int.tdiv_eq_ediv_of_nonneg (by omega)]
    rfl
  have hdv : ((n - 1 : Nat) : Int) / (long : Int) + 1 = (k : Int) := by
    rw [hk, manyF]
    rfl
  obtain ⟨m, hm⟩ : ∃ m, m = n - 1 := ⟨_, rfl⟩
  rw [← hm] at hq hdv
  have HH := Lib.hid h
  have NN := Lib.hid hN
  have HL := Lib.hid hl
  have ST := Lib.hid hst
  have HK := Lib.hid hkl
  have r1 : ¬ room < 8 := by omega
  have r2 : ¬ 65535 < room := by omega
  have e0 : room - 7 = (long : Int) := by omega
  have e1 : ¬ (long : Int) = 0 := by omega
  have hm0 : (n : Int) - 1 = (m : Int) := by omega
  have HKN := Lib.hid hkn
  clear h hN hl hst hk hr hm hkl
  go_enter Tryd.func11, Tryd.ntmps11
  go_upto_region 4 with (fail)
  obtain ⟨wm, hwm⟩ : ∃ x, x = w.alloc (.cells (madeCells #[.slice none 0 0] k) 26) := ⟨_, rfl⟩
  obtain ⟨g, hg⟩ : ∃ g, g = w.heap.size := ⟨_, rfl⟩
  go_cut [7] (fun v wx => v = .slice (some ⟨g, 0, none⟩) k k ∧ wx = wm)
  case first =>
    subst hwm hg
    go_wp2_with fail
    all_goals
      go_meet
      exact ⟨rfl, rfl⟩
  case rest =>
    obtain ⟨rfl, hwc⟩ := hcut
    obtain rfl : wm = _ := hwc.symm
    have hen : EncS w g k (madeCells #[.slice none 0 0] k) [] wm := by
      rw [hwm, hg]
      exact ⟨⟨(Below.refl _ _).alloc (Nat.le_refl _) _, Fil.made w k, Nat.le_refl _⟩, Sep.nil _ _ _ _⟩
    have EN := Lib.hid hen
    clear hen hwm hg hmk hq hdv
    go_wp2_with fail
    go_loopg [8, 29] k (fun gk sv iv wr => ∃ (i : Nat) (s : W32) (cur : Array Value) (ps : List (List UInt8)), sv = .int .u32 (s.toNat : Int) ∧ iv = .int .i64 (i : Int) ∧ i ≤ k ∧ k - i ≤ gk ∧ EncS w g k cur ps wr ∧ CutAt long k l i s ps)
    case atStart => exact ⟨0, 0, _, [], rfl, rfl, by omega, by omega, EN.out, ST.out⟩
    case round =>
      obtain ⟨G, hG⟩ : ∃ x, x = gk := ⟨_, rfl⟩
      subst hG
      obtain ⟨i, s, cur, ps, hov, hlv, hi, hgk, hen, hst⟩ := hrel
      subst hov hlv
      have ENR := Lib.hid hen
      have STR := Lib.hid hst
      clear EN ST hen hst
      by_cases hlt : i < k
      · go_upto_if 33 with (fail)
        go_cut [10] (fun v wx => v = .int .u8 ((mkF (decide (i = 0)) false).toNat : Int) ∧ wx = wr)
        case first =>
          by_cases hi0 : i = 0
          · subst hi0
            go_wp2_with fail
            go_meet
            exact ⟨rfl, rfl⟩
          · go_wp2_with fail
            go_meet
            rw [decide_eq_false hi0]
            exact ⟨rfl, rfl⟩
        case rest =>
          obtain ⟨h10, hwc⟩ := hcut
          obtain rfl : wr = _ := hwc.symm
          subst h10
          go_upto_if 40 with (fail)
          go_cut [10] (fun v wx => v = .int .u8 ((mkF (decide (i = 0)) (decide (i + 1 = k))).toNat : Int) ∧ wx = wr)
          case first =>
            have hor := or2_mk (decide (i = 0))
            obtain ⟨ai, hai⟩ : ∃ x, x = decide (i = 0) := ⟨_, rfl⟩
            rw [← hai] at hor ⊢
            have hai := Lib.hid hai
            by_cases hik : i + 1 = k
            · have q1 : ((i : Int) == (k : Int) - 1) = true := by rw [beq_iff_eq]; omega
              go_wp2_with fail
              go_meet
              rw [decide_eq_true hik, ← hai.out]
              exact ⟨congrArg _ hor, rfl⟩
            · have q1 : ((i : Int) == (k : Int) - 1) = false := by rw [beq_eq_false_iff_ne]; omega
              go_wp2_with fail
              go_meet
              rw [decide_eq_false hik, ← hai.out]
              exact ⟨rfl, rfl⟩
          case rest =>
            obtain ⟨h10, hwc⟩ := hcut
            obtain rfl : wr = _ := hwc.symm
            subst h10
            have hnx := STR.out.next hlt
            have hkl := HK.out
            have hik2 : (i + 1) * long ≤ k * long := Nat.mul_le_mul_right _ hlt
            have hin : i * long < n := by
              rcases Nat.eq_zero_or_pos i with h' | h'
              · subst h'; simpa using hn0
              · have := manyF_lt (long := long) (n := n) (i := i - 1) (by omega) (by rw [← HKM.out]; omega)
                rwa [show i - 1 + 1 = i from by omega] at this
            have hq12 : (i + 1) * long = i * long + long := by rw [Nat.add_mul, Nat.one_mul]
            have ht := take_part (i := i) (long := long) HL.out
            have f1 : (i : Int) * (long : Int) = ((i * long : Nat) : Int) := by simp
            have f2 : ((i : Int) + 1) * (long : Int) = (((i + 1) * long : Nat) : Int) := by simp
            obtain ⟨q1, hq1⟩ : ∃ q, q = i * long := ⟨_, rfl⟩
            obtain ⟨q2, hq2⟩ : ∃ q, q = (i + 1) * long := ⟨_, rfl⟩
            rw [← hq1] at hin hq12 ht f1
            rw [← hq2] at hik2 hq12 ht f2
            rw [← hq1] at hnx
            obtain ⟨hi2, hhi2⟩ : ∃ x, x = min q2 n := ⟨_, rfl⟩
            have hh1 : q1 ≤ hi2 := by omega
            have hh2 : hi2 ≤ n := by omega
            have hh3 : hi2 - q1 ≤ 65528 := by omega
            have hsl := (HH.out.below ENR.out.bel (Nat.le_refl _)).sub17 q1 hi2 hh1 hh2
            have hcap := HH.out.cap
            have hcq : ¬ c = q1 := by omega
            rw [if_neg hcq] at hsl
            rw [← hhi2] at ht
            rw [ht] at hsl
            have hcz : ¬ (c : Int) = (q1 : Int) := by omega
            have HHL := Lib.hid (show hi2 = q2 ∧ q2 ≤ n ∨ hi2 = n ∧ n < q2 from by omega)
            have hb2 : q2 ≤ 200000 := by omega
            have hb1 : q1 ≤ 200000 := by omega
            have SL := Lib.hid hsl
            have NX := Lib.hid hnx
            have HHI := Lib.hid hh3
            obtain ⟨z, hz⟩ : ∃ z, z = ((mkF (decide (i = 0)) (decide (i + 1 = k))).toNat : Int) := ⟨_, rfl⟩
            have hpc := fun A' c' W (hs' : Sl W 1 A' (hi2 - q1) c' (cells ((l.drop q1).take long))) (hN' : Nt W) => piece_at z _ hz A' (hi2 - q1) c' ((l.drop q1).take long) s W hs' (Nat.le_trans hh3 (by decide)) hN'
            rw [← hz]
            have PC := Lib.hid hpc
            clear hsl hnx hkl hik2 hq12 ht hq1 hq2 hhi2 hh3 hz hpc
            rcases HHL.out with ⟨hv, hv2⟩ | ⟨hv, hv2⟩
            all_goals
              subst hv
              go_wp2_with fail
              refine (PC.out _ _ wr SL.out (NN.out.keep ENR.out.bel)).mono ?_; rintro e w1 ⟨A5, n5, c5, rfl, hs5, hb5, hm5⟩
              obtain ⟨r, hr⟩ : ∃ r, r = pcF (mkF (decide (i = 0)) (decide (i + 1 = k))) ((l.drop q1).take long) s := ⟨_, rfl⟩
              have hr7 : 7 ≤ r.length := by rw [hr, pcF_len]; omega
              have hrs : tdF r = smF (mkF (decide (i = 0)) (decide (i + 1 = k))) ((l.drop q1).take long) s := by rw [hr, tdF_pc]
              have NXR := NX.out
              rw [← hr, ← hrs] at NXR
              rw [← hr] at hs5 hm5
              obtain rfl : n5 = r.length := by have := hs5.len; rw [cells_length] at this; omega
              have hput := ENR.out.put17 hb5 STR.out.len hlt hs5 hm5
              have htd := told_any A5 r.length c5 r _ hput.2 hr7
              have hen2 := ENR.out.later hb5
              obtain ⟨v0, hv0⟩ := hen2.fil.has hlt
              have hf0 := hen2.fil.free i
              have hc2 := cell_of_row _ _ i _ _ _ hput.1.fil.row
              rw [Array.getElem?_setIfInBounds, if_pos rfl, if_pos (by rw [ENR.out.fil.size]; exact hlt)] at hc2
              have HP := Lib.hid hput
              have NXH := Lib.hid NXR
              clear hs5 hm5 hb5 hput hen2 hr hrs NXR f1 f2 hb1 hb2 hin hh1 hh2
              go_wp2_with fail
              refine htd.mono ?_; clear htd; rintro e w2 ⟨rfl, hw2⟩
              obtain rfl := hw2
              go_wp2_with fail
              go_roundg (G - 1)
              case measure => omega
              case rel => exact ⟨i + 1, _, _, _, rfl, by go_num, by omega, by omega, HP.out.1, NXH.out⟩
      · obtain rfl : k = i := by omega
        go_wp2_with fail
        go_ret2
        have hdn := STR.out.done
        refine ⟨g, k, rfl, ?_, ENR.out.bel⟩
        rw [HC.out, ← hdn]
        exact ENR.out.gm STR.out.len (by unfold maxLen; omega)
/-- Cut, whatever the text, of a room that may be. -/
theorem cut17_any (A : Option Addr) (n c : Nat) (l : List UInt8) (room : Int) (long : Nat) (hr : room = (long : Int) + 7) (h1 : 1 ≤ long) (h2 : long ≤ 65528) (w : World) (h : Sl w 1 A n c (cells l)) (hn : n ≤ 100000) (hN : Nt w) :
    Calls Tryd.prog 11 #[.slice A n c, .int .i64 room] w fun e w' => ∃ g k, e = .returned (.tuple #[.slice (some ⟨g, 0, none⟩) k k, .int .i64 0]) ∧ Gm w' w.heap.size (some ⟨g, 0, none⟩) k k (cutF long l) ∧ Below w.heap.size w w' := by
  rcases Nat.eq_zero_or_pos n with h0 | h0
  · subst h0
    have hl := h.len
    rw [cells_length] at hl
    obtain rfl : l = [] := List.eq_nil_of_length_eq_zero (by omega)
    exact cut17_none A c room long hr h1 h2 w h.top hN
  · exact cut17_some A n c l room long hr h1 h2 w h hn h0 hN
end Go.Proofs.YtpijfghklgmefaaDoor

/-
  The document's Cut (layer 17). Conditions: bounds.
-/
import Derived.Test.YtpijfghklgmefaaDoorFrx
namespace Go.Proofs.YtpijfghklgmefaaDoor
open Go.RowKit Go.Proofs
set_option linter.unusedVariables false
set_option maxRecDepth 20000
set_option maxHeartbeats 3200000

theorem rcut17_no (A : Option Addr) (n c : Nat) (room : Int) (h : room < 8 ∨ 65535 < room) (w : World) :
    Calls Tryd.prog 15 #[.slice A n c, .int .i64 room] w fun e w' => e = .returned (.tuple #[.slice none 0 0, .int .i64 2]) ∧ w' = w := by
  by_cases h1 : room < 8
  · go_enter Tryd.func15, Tryd.ntmps15
    go_wp2_with fail
    go_ret2
    exact ⟨rfl, rfl⟩
  · have h2 : 65535 < room := by omega
    go_enter Tryd.func15, Tryd.ntmps15
    go_wp2_with fail
    go_ret2
    exact ⟨rfl, rfl⟩
theorem take_min17 {l : List UInt8} {n long : Nat} (hl : l.length = n) : l.take long = l.take (min n long) := by
  rcases Nat.le_total long n with h | h
  · rw [Nat.min_eq_right h]
  · rw [Nat.min_eq_left h, List.take_of_length_le (by omega), List.take_of_length_le (by omega)]
theorem take_min17b {l : List UInt8} {n q long : Nat} (hl : l.length = n) (hq : q ≤ n) : (l.drop q).take long = (l.drop q).take (min n (q + long) - q) := by
  rcases Nat.le_total (q + long) n with h | h
  · rw [Nat.min_eq_right h, Nat.add_sub_cancel_left]
  · rw [Nat.min_eq_left h, List.take_of_length_le (by rw [List.length_drop]; omega), List.take_of_length_le (by rw [List.length_drop]; omega)]
theorem Sl.to17 {w : World} {n c : Nat} {A : Option Addr} {l : List UInt8} (h : Sl w 1 A n c (cells l)) (m : Nat) (hm : m ≤ n) : Sl w 1 A m c (cells (l.take m)) := by
  have hc := h.cap
  have hl := h.len
  rw [cells_length, Nat.mul_one] at hl
  refine ⟨by rw [cells_length, List.length_take, hl]; omega, by omega, h.top, fun j u hu => ?_⟩
  have e : cells (l.take m) = (cells l).take m := by simp [cells]
  rw [e, List.getElem?_take] at hu
  split at hu
  · exact h.cell j u hu
  · cases hu
theorem rpc_at (mk : UInt8) (t : List UInt8) (s : W32) (A : Option Addr) (n c : Nat) (w : World) (h : Sl w 1 A n c (cells t)) (hn : n ≤ 1000000) (z y : Int) (hz : z = (mk.toNat : Int)) (hy : y = (s.toNat : Int)) :
    Calls Tryd.prog 42 #[.int .u8 z, .slice A n c, .int .u32 y] w (RetPc mk t s w) := by
  subst hz hy
  exact rpiece17 mk s A n c t w h hn
theorem rcut17_none (A : Option Addr) (c : Nat) (room : Int) (long : Nat) (hr : room = (long : Int) + 7) (h1 : 1 ≤ long) (h2 : long ≤ 65528) (w : World) (hc : c ≤ maxLen) :
    Calls Tryd.prog 15 #[.slice A 0 c, .int .i64 room] w fun e w' => ∃ k B d, e = .returned (.tuple #[.slice B k d, .int .i64 0]) ∧ Gr w' B k d (cutF long []) ∧ Below w.heap.size w w' := by
  have r1 : ¬ room < 8 := by omega
  have r2 : ¬ 65535 < room := by omega
  have hmin : min (0 : Int) (long : Int) = 0 := by omega
  have hlp : (0 : Int) < (long : Int) := by omega
  have HCC := Lib.hid hc
  have HLL := Lib.hid h2
  clear hc
  go_enter Tryd.func15, Tryd.ntmps15
  go_wp2_with fail
  go_loopw [6, 7, 8] (fun ov sv av wr => ∃ (i q : Nat) (s : W32) (ps : List (List UInt8)) (OA : Option Addr) (oc : Nat), ov = .slice OA i oc ∧ sv = .int .u32 (s.toNat : Int) ∧ av = .int .i64 (q : Int) ∧ (i = 0 ∧ q = 0 ∧ s = 0 ∧ ps = [] ∧ OA = none ∨ i = 1 ∧ long = q ∧ ps = [pcF (mkF true true) [] 0]) ∧ Gg wr w.heap.size OA i oc ps ∧ Below w.heap.size w wr) (fun ov _ _ _ => match ov with | .slice _ i _ => 1 - i | _ => 0)
  case atStart => exact ⟨0, 0, 0, [], none, 0, rfl, rfl, rfl, .inl ⟨rfl, rfl, rfl, rfl, rfl⟩, Gg.nil _ _, Below.refl _ _⟩
  case round =>
    obtain ⟨i, q, s, ps, OA, oc, rfl, rfl, rfl, hq, hgg, hbe⟩ := hrel
    have GG := Lib.hid hgg
    have BE := Lib.hid hbe
    clear hgg hbe
    rcases hq with ⟨rfl, rfl, rfl, rfl, rfl⟩ | ⟨rfl, rfl, rfl⟩
    · have hpc := rpc_at (mkF true true) [] 0 A 0 c wr (Sl.empty _ _ _ _ HCC.out) (by decide) 3 0 rfl rfl
      go_wp2_with fail
      refine hpc.mono ?_; clear hpc; rintro e w1 ⟨A5, c5, rfl, hg5, hb5⟩
      have G1 := Lib.hid (GG.out.later hb5)
      have B1 := Lib.hid (BE.out.trans (hb5.mono BE.out.size))
      have H5 := Lib.hid hg5
      clear hg5 hb5
      go_wp2_with (at_builtin; refine wpList_append_g1 (B := w.heap.size) rfl (.tmp 56) (.tmp 58) rfl rfl G1.out B1.out.size A5 7 c5 _ (by rw [pcF_len]; rfl) H5.out.sl (Oth.none _ _) rfl (by decide) ?_)
      intro A7 c7 w7 hg7 hb7 _
      have G7 := Lib.hid hg7
      have B7 := Lib.hid (B1.out.trans hb7)
      clear hg7 hb7
      go_wp2_with fail
      go_roundw
      case rel => exact ⟨1, long, _, _, A7, c7, rfl, rfl, by go_num, .inr ⟨rfl, rfl, rfl⟩, G7.out, B7.out⟩
      case measure => simp
    · have hnz : ¬ (long : Int) < 0 := by omega
      have hne : ¬ (long : Int) = 0 := by omega
      go_wp2_with fail
      go_ret2
      refine ⟨1, OA, oc, rfl, ?_, BE.out⟩
      have e : cutF long [] = [pcF (mkF true true) [] 0] := by rw [cutF]; simp [manyF, cutN]
      rw [e]
      exact GG.out.gr
theorem rcut17_some (A : Option Addr) (n c : Nat) (l : List UInt8) (room : Int) (long : Nat) (hr : room = (long : Int) + 7) (h1 : 1 ≤ long) (h2 : long ≤ 65528) (w : World) (h : Sl w 1 A n c (cells l)) (hn : n ≤ 100000) (hn0 : 0 < n) :
    Calls Tryd.prog 15 #[.slice A n c, .int .i64 room] w fun e w' => ∃ B d, e = .returned (.tuple #[.slice B (manyF long n) d, .int .i64 0]) ∧ Gr w' B (manyF long n) d (cutF long l) ∧ Below w.heap.size w w' := by
  have hl := h.len
  rw [cells_length, Nat.mul_one] at hl
  obtain ⟨K, hK⟩ : ∃ K, K = manyF long n := ⟨_, rfl⟩
  have hKs : K ≤ n + 1 := by rw [hK]; exact manyF_small _ _
  have hKl : n ≤ K * long := by rw [hK]; exact manyF_le h1
  have hK0 : 0 < K := by rw [hK]; exact manyF_pos _ _
  have HKlt := Lib.hid (show ∀ i, i + 1 < K → (i + 1) * long < n from fun i hi => manyF_lt h1 (by rw [← hK]; exact hi))
  have HS := Lib.hid h
  have HL := Lib.hid hl
  have HK := Lib.hid hK
  have HKL := Lib.hid hKl
  rw [← hK]
  clear h hl hK hKl
  go_enter Tryd.func15, Tryd.ntmps15
  go_wp2_with fail
  go_loopw [6, 7, 8] (fun ov sv av wr => ∃ (i q : Nat) (s : W32) (ps : List (List UInt8)) (OA : Option Addr) (oc : Nat), ov = .slice OA i oc ∧ sv = .int .u32 (s.toNat : Int) ∧ av = .int .i64 (q : Int) ∧ i * long = q ∧ CutAt long K l i s ps ∧ Gg wr w.heap.size OA i oc ps ∧ Below w.heap.size w wr) (fun _ _ av _ => n + 1 - (intOf av).toNat)
  case atStart => exact ⟨0, 0, 0, [], none, 0, rfl, rfl, rfl, by omega, CutAt.start long K l (by rw [HL.out]; exact HKL.out), Gg.nil _ _, Below.refl _ _⟩
  case round =>
    obtain ⟨i, q, s, ps, OA, oc, rfl, rfl, rfl, hq, hca, hgg, hbe⟩ := hrel
    have CA := Lib.hid hca
    have GG := Lib.hid hgg
    have BE := Lib.hid hbe
    have hiK := hca.le
    clear hca hgg hbe
    rcases Nat.lt_or_ge i K with hlt | hge
    · obtain ⟨t, ht⟩ : ∃ t, t = (l.drop (i * long)).take long := ⟨_, rfl⟩
      obtain ⟨E, hE⟩ : ∃ E, E = min n (q + long) := ⟨_, rfl⟩
      have hlast : i + 1 < K → q + long < n := fun hh => by
        have := HKlt.out i hh
        rw [Nat.add_mul, Nat.one_mul] at this
        omega
      have hend : i + 1 = K → n ≤ q + long := fun hh => by
        have := HKL.out
        rw [← hh, Nat.add_mul, Nat.one_mul] at this
        omega
      have hfirst : i = 0 → q = 0 := fun hh => by rw [← hq, hh, Nat.zero_mul]
      have hnot : i ≠ 0 → 0 < q ∧ q < n := fun hh => by
        obtain ⟨j, rfl⟩ : ∃ j, i = j + 1 := ⟨i - 1, by omega⟩
        have h3 := HKlt.out j hlt
        have h4 : 0 < (j + 1) * long := Nat.mul_pos (by omega) h1
        omega
      have hqn : q ≤ n := by
        by_cases hi0 : i = 0
        · have := hfirst hi0; omega
        · exact Nat.le_of_lt (hnot hi0).2
      have htl : t.length = E - q := by rw [ht, hq, List.length_take, List.length_drop, HL.out]; omega
      have hnx := CA.out.next hlt
      rw [← ht] at hnx
      have NX := Lib.hid hnx
      obtain ⟨mk, hmk⟩ : ∃ mk, mk = mkF (decide (i = 0)) (decide (i + 1 = K)) := ⟨_, rfl⟩
      have HT := Lib.hid ht
      have HE := Lib.hid hE
      have HMK := Lib.hid hmk
      clear hnx ht hmk
      have hqE : q ≤ E := by omega
      have hEn : E ≤ n := by omega
      have hmin : min (n : Int) ((q : Int) + (long : Int)) = (E : Int) := by omega
      have hcnd : (q : Int) < (n : Int) ∨ (q : Int) = 0 := by
        by_cases hi0 : i = 0
        · right; have := hfirst hi0; omega
        · left; have := (hnot hi0).2; omega
      have hE1 : ((E : Int) = (n : Int)) ↔ i + 1 = K := by
        constructor
        · intro hh
          rcases Nat.lt_or_ge (i + 1) K with h3 | h3
          · have := hlast h3; omega
          · omega
        · intro hh
          have := hend hh; omega
      have hqlt : q < n := by
        by_cases hi0 : i = 0
        · have := hfirst hi0; omega
        · exact (hnot hi0).2
      have hqi : (q : Int) < (n : Int) := by omega
      have HQQ := Lib.hid hq
      have HSW := Lib.hid (HS.out.below BE.out (Nat.le_refl _))
      have hcap := HS.out.cap
      have hcq : ¬ c = q := by omega
      have hcz : ¬ (c : Int) = (q : Int) := by omega
      have hte2 : (l.drop q).take (E - q) = t := by
        rw [HT.out, HQQ.out, HE.out]
        exact (take_min17b HL.out hqn).symm
      have HTL := Lib.hid htl
      clear hmin hcnd hE1 hE htl
      by_cases hi0 : i = 0
      · by_cases hl : i + 1 = K
        · have hEn2 : E = n := by have := hend hl; have := HE.out; omega
          subst hEn2
          have hcd : ¬ (q : Int) + ((long : Int) + 7) - 7 < (E : Int) := by have := hend hl; omega
          have hq0 : (q : Int) = 0 := by have := hfirst hi0; omega
          have hmz : (3 : Int) = (mk.toNat : Int) := by rw [HMK.out, decide_eq_true hi0, decide_eq_true hl]; rfl
          have hsl := HSW.out.to17 E hEn
          have hte : l.take E = t := by rw [HT.out, HQQ.out, show q = 0 from by omega, List.drop_zero, HE.out, show q = 0 from by omega, Nat.zero_add]; exact (take_min17 HL.out).symm
          rw [hte] at hsl
          have hpc := rpc_at mk t s A E c wr hsl (by omega) 3 _ hmz rfl
          have SLH := Lib.hid hsl
          have HI0 := Lib.hid hi0
          have HLK := Lib.hid hl
          clear hsl hmz hi0 hl
          go_wp2_with fail
          refine hpc.mono ?_; clear hpc; rintro e w1 ⟨A5, c5, rfl, hg5, hb5⟩
          have hlow := hg5.low
          have hown := GG.out.own
          have OT : Oth OA A5 (t.length + 7) := fun b o o' hn e e' => by have h1 := hlow b o hn e; have h2 := (hown b o' e').2; omega
          have G1 := Lib.hid (GG.out.later hb5)
          have B1 := Lib.hid (BE.out.trans (hb5.mono BE.out.size))
          have H5 := Lib.hid hg5
          have OTH := Lib.hid OT
          clear hg5 hb5 hlow hown OT
          go_wp2_with (at_builtin; refine wpList_append_g1 (B := w.heap.size) rfl (.tmp 56) (.tmp 58) rfl rfl G1.out B1.out.size A5 (t.length + 7) c5 _ (by rw [pcF_len]) H5.out.sl OTH.out rfl (by omega) ?_)
          intro A7 c7 w7 hg7 hb7 _
          have G7 := Lib.hid hg7
          have B7 := Lib.hid (B1.out.trans hb7)
          clear hg7 hb7
          go_wp2_with fail
          go_roundw
          case rel => exact ⟨i + 1, q + long, smF mk t s, _, A7, c7, rfl, rfl, by go_num, by rw [Nat.add_mul, Nat.one_mul, HQQ.out], by rw [HMK.out]; exact NX.out, by rw [← HMK.out]; exact G7.out, B7.out⟩
          case measure => simp [intOf]; omega
        · have hql := hlast (by omega)
          have hE9 : (q : Int) + ((long : Int) + 7) - 7 = (E : Int) := by have := HE.out; omega
          have hcd : (E : Int) < (n : Int) := by omega
          have hcd2 : ¬ (E : Int) = (n : Int) := by omega
          have hq0 : (q : Int) = 0 := by have := hfirst hi0; omega
          have hmz : (1 : Int) = (mk.toNat : Int) := by rw [HMK.out, decide_eq_true hi0, decide_eq_false hl]; rfl
          have hsl := HSW.out.to17 E hEn
          have hte : l.take E = t := by rw [HT.out, HQQ.out, show q = 0 from by omega, List.drop_zero, HE.out, show q = 0 from by omega, Nat.zero_add]; exact (take_min17 HL.out).symm
          rw [hte] at hsl
          have hEl : E = long := by omega
          rw [hEl] at hsl
          have hpc := rpc_at mk t s A long c wr hsl (by omega) 1 _ hmz rfl
          have SLH := Lib.hid hsl
          have HI0 := Lib.hid hi0
          have HLK := Lib.hid hl
          clear hsl hmz hi0 hl
          go_wp2_with fail
          refine hpc.mono ?_; clear hpc; rintro e w1 ⟨A5, c5, rfl, hg5, hb5⟩
          have hlow := hg5.low
          have hown := GG.out.own
          have OT : Oth OA A5 (t.length + 7) := fun b o o' hn e e' => by have h1 := hlow b o hn e; have h2 := (hown b o' e').2; omega
          have G1 := Lib.hid (GG.out.later hb5)
          have B1 := Lib.hid (BE.out.trans (hb5.mono BE.out.size))
          have H5 := Lib.hid hg5
          have OTH := Lib.hid OT
          clear hg5 hb5 hlow hown OT
          go_wp2_with (at_builtin; refine wpList_append_g1 (B := w.heap.size) rfl (.tmp 56) (.tmp 58) rfl rfl G1.out B1.out.size A5 (t.length + 7) c5 _ (by rw [pcF_len]) H5.out.sl OTH.out rfl (by omega) ?_)
          intro A7 c7 w7 hg7 hb7 _
          have G7 := Lib.hid hg7
          have B7 := Lib.hid (B1.out.trans hb7)
          clear hg7 hb7
          go_wp2_with fail
          go_roundw
          case rel => exact ⟨i + 1, q + long, smF mk t s, _, A7, c7, rfl, rfl, by go_num, by rw [Nat.add_mul, Nat.one_mul, HQQ.out], by rw [HMK.out]; exact NX.out, by rw [← HMK.out]; exact G7.out, B7.out⟩
          case measure => simp [intOf]; omega
      · by_cases hl : i + 1 = K
        · have hEn2 : E = n := by have := hend hl; have := HE.out; omega
          subst hEn2
          have hcd : ¬ (q : Int) + ((long : Int) + 7) - 7 < (E : Int) := by have := hend hl; omega
          have hq0 : ¬ (q : Int) = 0 := by have := (hnot hi0).1; omega
          have hmz : (2 : Int) = (mk.toNat : Int) := by rw [HMK.out, decide_eq_false hi0, decide_eq_true hl]; rfl
          have hsl := HSW.out.sub17 q E hqE hEn
          rw [if_neg hcq, hte2] at hsl
          have hpc := rpc_at mk t s (A.map fun x => x.add q) (E - q) (c - q) wr hsl (by omega) 2 _ hmz rfl
          have SLH := Lib.hid hsl
          have HI0 := Lib.hid hi0
          have HLK := Lib.hid hl
          clear hsl hmz hi0 hl
          go_wp2_with fail
          refine hpc.mono ?_; clear hpc; rintro e w1 ⟨A5, c5, rfl, hg5, hb5⟩
          have hlow := hg5.low
          have hown := GG.out.own
          have OT : Oth OA A5 (t.length + 7) := fun b o o' hn e e' => by have h1 := hlow b o hn e; have h2 := (hown b o' e').2; omega
          have G1 := Lib.hid (GG.out.later hb5)
          have B1 := Lib.hid (BE.out.trans (hb5.mono BE.out.size))
          have H5 := Lib.hid hg5
          have OTH := Lib.hid OT
          clear hg5 hb5 hlow hown OT
          go_wp2_with (at_builtin; refine wpList_append_g1 (B := w.heap.size) rfl (.tmp 56) (.tmp 58) rfl rfl G1.out B1.out.size A5 (t.length + 7) c5 _ (by rw [pcF_len]) H5.out.sl OTH.out rfl (by omega) ?_)
          intro A7 c7 w7 hg7 hb7 _
          have G7 := Lib.hid hg7
          have B7 := Lib.hid (B1.out.trans hb7)
          clear hg7 hb7
          go_wp2_with fail
          go_roundw
          case rel => exact ⟨i + 1, q + long, smF mk t s, _, A7, c7, rfl, rfl, by go_num, by rw [Nat.add_mul, Nat.one_mul, HQQ.out], by rw [HMK.out]; exact NX.out, by rw [← HMK.out]; exact G7.out, B7.out⟩
          case measure => simp [intOf]; omega
        · have hql := hlast (by omega)
          have hE9 : (q : Int) + ((long : Int) + 7) - 7 = (E : Int) := by have := HE.out; omega
          have hcd : (E : Int) < (n : Int) := by omega
          have hcd2 : ¬ (E : Int) = (n : Int) := by omega
          have hq0 : ¬ (q : Int) = 0 := by have := (hnot hi0).1; omega
          have hmz : (0 : Int) = (mk.toNat : Int) := by rw [HMK.out, decide_eq_false hi0, decide_eq_false hl]; rfl
          have hsl := HSW.out.sub17 q E hqE hEn
          rw [if_neg hcq, hte2] at hsl
          have hpc := rpc_at mk t s (A.map fun x => x.add q) (E - q) (c - q) wr hsl (by omega) 0 _ hmz rfl
          have SLH := Lib.hid hsl
          have HI0 := Lib.hid hi0
          have HLK := Lib.hid hl
          clear hsl hmz hi0 hl
          go_wp2_with fail
          refine hpc.mono ?_; clear hpc; rintro e w1 ⟨A5, c5, rfl, hg5, hb5⟩
          have hlow := hg5.low
          have hown := GG.out.own
          have OT : Oth OA A5 (t.length + 7) := fun b o o' hn e e' => by have h1 := hlow b o hn e; have h2 := (hown b o' e').2; omega
          have G1 := Lib.hid (GG.out.later hb5)
          have B1 := Lib.hid (BE.out.trans (hb5.mono BE.out.size))
          have H5 := Lib.hid hg5
          have OTH := Lib.hid OT
          clear hg5 hb5 hlow hown OT
          go_wp2_with (at_builtin; refine wpList_append_g1 (B := w.heap.size) rfl (.tmp 56) (.tmp 58) rfl rfl G1.out B1.out.size A5 (t.length + 7) c5 _ (by rw [pcF_len]) H5.out.sl OTH.out rfl (by omega) ?_)
          intro A7 c7 w7 hg7 hb7 _
          have G7 := Lib.hid hg7
          have B7 := Lib.hid (B1.out.trans hb7)
          clear hg7 hb7
          go_wp2_with fail
          go_roundw
          case rel => exact ⟨i + 1, q + long, smF mk t s, _, A7, c7, rfl, rfl, by go_num, by rw [Nat.add_mul, Nat.one_mul, HQQ.out], by rw [HMK.out]; exact NX.out, by rw [← HMK.out]; exact G7.out, B7.out⟩
          case measure => simp [intOf]; omega
    · obtain rfl : K = i := by omega
      have hqn : n ≤ q := by rw [← hq]; exact HKL.out
      have hq0 : 0 < q := by rw [← hq]; exact Nat.mul_pos hK0 h1
      have hz1 : ¬ (q : Int) < (n : Int) := by omega
      have hz2 : ¬ (q : Int) = 0 := by omega
      clear hq
      go_wp2_with fail
      go_ret2
      exact ⟨OA, oc, rfl, by rw [cutF, HL.out, ← HK.out, ← CA.out.done]; exact GG.out.gr, BE.out⟩
/-- The document's Cut, whatever the text, of a room that may be. -/
theorem rcut17_any (A : Option Addr) (n c : Nat) (l : List UInt8) (room : Int) (long : Nat) (hr : room = (long : Int) + 7) (h1 : 1 ≤ long) (h2 : long ≤ 65528) (w : World) (h : Sl w 1 A n c (cells l)) (hn : n ≤ 100000) :
    Calls Tryd.prog 15 #[.slice A n c, .int .i64 room] w fun e w' => ∃ k B d, e = .returned (.tuple #[.slice B k d, .int .i64 0]) ∧ Gr w' B k d (cutF long l) ∧ Below w.heap.size w w' := by
  rcases Nat.eq_zero_or_pos n with h0 | h0
  · subst h0
    have hl := h.len
    rw [cells_length] at hl
    obtain rfl : l = [] := List.eq_nil_of_length_eq_zero (by omega)
    exact rcut17_none A c room long hr h1 h2 w h.top
  · refine (rcut17_some A n c l room long hr h1 h2 w h hn h0).mono ?_
    rintro e w' ⟨B, d, he, hg, hb⟩
    exact ⟨manyF long n, B, d, he, hg, hb⟩
end Go.Proofs.YtpijfghklgmefaaDoor

/-
  ArrayRows over DrvK: it returns true, whatever its arguments. (Written by gen_dti.py.)
-/
import Derived.Test.YtjjoeaneaibklaaDto
import Derived.Test.YtjjoeaneaibklaaDth
import Derived.Deep.RegionHeld3
import Derived.Deep.DeepCutAuto
namespace Go.Proofs.Ytjjoeaneaibklaa
open Go.RowKit Go.Proofs
set_option linter.unusedVariables false

section
variable {Rep : World → (Nat → Prop) → Nat → Dv → Prop}
theorem nd_put_wait {M N a : Nat} {c : UInt8} {xs : List Dv} (h : NewDead M xs) (hl : xs.length = N) : Wl 1 (putS xs (aR c N) (a : Int) N) := fun i x hx => by
  have hi := get_lt hx
  rw [put_len] at hi
  have hy : xs[i]? = some (xs[i]) := List.getElem?_eq_getElem hi
  rw [put_at hy hl] at hx
  injection hx with hx
  rw [← hx]
  exact write_wait _ _ _ 0 (by rw [nd_wait h hy]; exact Nat.le_refl _)
theorem Wl.mono {k k' : Nat} {xs : List Dv} (h : Wl k xs) (hk : k ≤ k') : Wl k' xs := fun i x hx => Nat.le_trans (h i x hx) hk
theorem upTo_wl {k k' t : Nat} {xs : List Dv} {F : Nat → Dv → Dv} (h : Wl k xs) (hF : ∀ i x, x.wait.length ≤ k → (F i x).wait.length ≤ k') (hk : k ≤ k') : Wl k' (upTo F xs t) := fun i x hx => by
  have hi := get_lt hx
  rw [upTo_len] at hi
  have hy : xs[i]? = some (xs[i]) := List.getElem?_eq_getElem hi
  rw [upTo_at hy] at hx
  injection hx with hx
  rw [← hx]
  split
  · exact hF i _ (h i _ hy)
  · exact Nat.le_trans (h i _ hy) hk
set_option maxRecDepth 100000
set_option maxHeartbeats 12800000
theorem arrayRows_any (DK : DrvK Rep) (n m z : Int) (A0 : Option Addr) (c0 : Nat) (gs : List Int) (c : UInt8) (w : World) (bn : -9223372036854775808 ≤ n ∧ n < 9223372036854775808) (bm : -9223372036854775808 ≤ m ∧ m < 9223372036854775808) (bz : -9223372036854775808 ≤ z ∧ z < 9223372036854775808) (hg : Sl w 1 A0 gs.length c0 (icells gs)) :
    Calls Try.prog 5 #[.int .i64 n, .int .i64 m, .int .i64 z, .slice A0 gs.length c0, .int .u8 (c.toNat : Int)] w (SaysTrue w) := by
  obtain ⟨ng, hng⟩ : ∃ ng, ng = gs.length := ⟨_, rfl⟩
  rw [← hng] at hg ⊢
  have HG := Lib.hid hg
  have HNG := Lib.hid hng
  clear hg hng
  by_cases g0 : n < 1
  · go_enter Try.func5, Try.ntmps5
    go_wp2_with fail
    refine (stands10_any DK _).mono ?_; rintro e wz ⟨rfl, hbz⟩
    go_wp2_with fail
    go_ret
    exact ⟨rfl, hbz⟩
  by_cases g1 : 12 < n
  · go_enter Try.func5, Try.ntmps5
    go_wp2_with fail
    refine (stands10_any DK _).mono ?_; rintro e wz ⟨rfl, hbz⟩
    go_wp2_with fail
    go_ret
    exact ⟨rfl, hbz⟩
  by_cases g2 : m < 1
  · go_enter Try.func5, Try.ntmps5
    go_wp2_with fail
    refine (stands10_any DK _).mono ?_; rintro e wz ⟨rfl, hbz⟩
    go_wp2_with fail
    go_ret
    exact ⟨rfl, hbz⟩
  by_cases g3 : 10 < m
  · go_enter Try.func5, Try.ntmps5
    go_wp2_with fail
    refine (stands10_any DK _).mono ?_; rintro e wz ⟨rfl, hbz⟩
    go_wp2_with fail
    go_ret
    exact ⟨rfl, hbz⟩
  by_cases g4 : z < 0
  · go_enter Try.func5, Try.ntmps5
    go_wp2_with fail
    refine (stands10_any DK _).mono ?_; rintro e wz ⟨rfl, hbz⟩
    go_wp2_with fail
    go_ret
    exact ⟨rfl, hbz⟩
  by_cases g5 : m ≤ z
  · go_enter Try.func5, Try.ntmps5
    go_wp2_with fail
    refine (stands10_any DK _).mono ?_; rintro e wz ⟨rfl, hbz⟩
    go_wp2_with fail
    go_ret
    exact ⟨rfl, hbz⟩
  by_cases g6 : (30 : Int) < (ng : Int)
  · go_enter Try.func5, Try.ntmps5
    go_wp2_with fail
    refine (stands10_any DK _).mono ?_; rintro e wz ⟨rfl, hbz⟩
    go_wp2_with fail
    go_ret
    exact ⟨rfl, hbz⟩
  
  obtain ⟨N, rfl⟩ : ∃ N : Nat, n = (N : Int) := ⟨n.toNat, by omega⟩
  obtain ⟨M, rfl⟩ : ∃ M : Nat, m = (M : Int) := ⟨m.toNat, by omega⟩
  obtain ⟨a, rfl⟩ : ∃ a : Nat, z = (a : Int) := ⟨z.toNat, by omega⟩
  have ha : a < M := by omega
  obtain ⟨i0, hi0, hz0, hz1, hz2⟩ := info_parts info_bs10
  have Hi := Lib.hid hi0
  have Hz0 := Lib.hid hz0
  have Hz1 := Lib.hid hz1
  have Hz2 := Lib.hid hz2
  clear hi0 hz0 hz1 hz2
  obtain ⟨j0, hi0, hz0, hz1, hz2⟩ := info_parts info_bb10
  have Hj := Lib.hid hi0
  have Hy0 := Lib.hid hz0
  have Hy1 := Lib.hid hz1
  have Hy2 := Lib.hid hz2
  clear hi0 hz0 hz1 hz2
  go_enter Try.func5, Try.ntmps5
  go_wp2_with fail
  refine (arnew_yes DK N M w (by omega) (by omega) (by omega) (by omega)).mono ?_; rintro e w1 ⟨A, S1, rfl, ha1, hb1, hS1⟩
  have L1 := Lib.hid (show La Rep w w1 S1 A (List.replicate N (Dv.new M)) from La.of_new (Below.refl _ _) ha1 hb1 hS1)
  clear ha1 hb1 hS1
  go_wp2_with fail
  go_loopw [12] (fun i wr => ∃ (t : Nat) (xs : List Dv) (S : Nat → Prop), t ≤ ng ∧ i = .int .i64 (t : Int) ∧ NewDead M xs ∧ xs.length = N ∧ La Rep w wr S A xs) (fun i _ => ng - (intOf i).toNat)
  case atStart => exact ⟨0, _, S1, by omega, rfl, nd_zero, List.length_replicate .., L1.out⟩
  case round =>
    obtain ⟨t, xs, S, ht, rfl, hnd, hxl, hL⟩ := hrel
    have ND := Lib.hid hnd
    have XL := Lib.hid hxl
    have LL := Lib.hid hL
    clear hnd hxl hL L1
    by_cases hlt : t < ng
    · have hti : (t : Int) < (ng : Int) := by omega
      obtain ⟨bg, og, rfl, hgc⟩ := (HG.out.below LL.out.bel (Nat.le_refl _)).at_ hlt
      obtain ⟨gz, hgz⟩ : ∃ gz, gs[t]? = some gz := ⟨_, List.getElem?_eq_getElem (by have := HNG.out; omega)⟩
      have hcell := hgc t (.int .i64 gz) (by rw [icells, List.getElem?_map, hgz]; rfl)
      clear hgc hgz
      go_wp2_with fail
      refine (arfail_any DK LL.out.ap (by have := XL.out; omega) gz).mono ?_; rintro e w2 ⟨rfl, hm⟩
      obtain ⟨S2, hL2, _⟩ := LL.out.mut hm
      have L2 := Lib.hid hL2
      clear hm hL2 hcell
      go_wp2_with fail
      go_roundw
      case rel => exact ⟨t + 1, _, S2, by omega, by go_num, ND.out.fail gz, by rw [onD_len, XL.out], L2.out⟩
      case measure => simp [intOf]; omega
    · have hti : ¬ (t : Int) < (ng : Int) := by omega
      clear hlt ht
      have hA := aralive_any DK LL.out.ap (by have := XL.out; omega)
      rw [XL.out] at hA
      obtain ⟨al, hal⟩ : ∃ al, al = aliveN xs N := ⟨_, rfl⟩
      rw [← hal] at hA
      have hal2 : al ≤ N := by rw [hal]; exact alive_cap _ _
      have AL := Lib.hid hal
      clear hal
      go_wp2_with fail
      refine hA.mono ?_; clear hA; rintro e w2 ⟨rfl, hb2⟩
      have L2 := Lib.hid (LL.out.later DK hb2)
      clear hb2 LL
      go_wp2_with fail
      go_loopw [14, 15, 16] (fun va vk i wr => ∃ (t : Nat) (A1 : Option Addr) (c1 : Nat) (A2 : Option Addr) (c2 : Nat) (T1 T2 : Nat → Prop), t ≤ N ∧ i = .int .i64 (t : Int) ∧ va = .slice A1 t c1 ∧ vk = .slice A2 t c2 ∧ Ng cells 40 wr T1 A1 t c1 (aR c t) ∧ Ng bcells 56 wr T2 A2 t c2 (aK t) ∧ Two w2 wr T1 T2 ∧ Below w2.heap.size w2 wr) (fun _ _ i _ => N - (intOf i).toNat)
      case atStart => exact ⟨0, none, 0, none, 0, fun _ => False, fun _ => False, by omega, rfl, rfl, rfl, Ng.nil _ _, Ng.nil _ _, ⟨fun b h => h.elim, fun b h => h.elim⟩, Below.refl _ _⟩
      case round =>
        obtain ⟨t, A1, c1, A2, c2, T1, T2, ht, rfl, rfl, rfl, hg1, hg2, htw, hB⟩ := hrel
        have HB := Lib.hid hB
        have TW := Lib.hid htw
        by_cases hlt : t < N
        · have hti : (t : Int) < (N : Int) := by omega
          obtain ⟨vs1, hv1⟩ := hg1.vs
          obtain ⟨vs2, hv2⟩ := hg2.vs
          have HV1 := Lib.hid hv1
          have HV2 := Lib.hid hv2
          have HF := Lib.hid (full10 _ (c + UInt8.ofNat t) (byte_next c t (by omega)))
          clear hg1 hg2 hv1 hv2 htw hB
          go_wp2_with fail
          have hFF := HF.out wr
          rw [show IntKind.u8.wrap ((c.toNat : Int) + (t : Int)) = IntKind.u8.wrap ((c.toNat : Int) + IntKind.u8.wrap (t : Int)) from by simp only [IntKind.wrap_u8]; omega] at hFF
          refine (full10 _ (c + UInt8.ofNat t) ?_ wr).mono ?_
          · rw [← byte_next c t (by omega)]
            simp only [IntKind.wrap_u8] <;> omega
          clear hFF
          rintro e w3 ⟨A3, c3, rfl, hs3, hb3, hl3⟩
          have RN3 := Lib.hid (HV1.out.rn.later hb3)
          have HS3 := Lib.hid hs3
          have HB3 := Lib.hid hb3
          have HL3 := Lib.hid hl3
          clear hs3 hb3 hl3
          go_wp2_with (at_builtin; refine wpList_append_made (w := w3) (T := 40) (v := .slice A3 64 c3) rfl (.tmp 73) (.tmp 79) 38 38 rfl i0 (.slice none 0 0) 24 Try.underlying38 Try.underlying38 Hi.out Hz0.out Hz1.out Hz2.out rfl (by decide) rfl RN3.out rfl rfl (by omega) ?pd)
          intro A4 c4 w4 hrn4 hf4 ho4
          have hz3 := HB3.out.size
          have hz4 := hf4.size
          have hold1 : ∀ b, T1 b → b < wr.heap.size := fun b hb => (TW.out.one b hb).2.1
          have NG4 := Lib.hid (show Ng cells 40 w4 (fun b => T1 b ∨ wr.heap.size ≤ b ∧ b < w4.heap.size) A4 (t + 1) c4 (aR c (t + 1)) by
            rw [aR_next]
            have hv3 : Ngv cells 40 w3 T1 A1 t c1 (aR c t) vs1 := ⟨RN3.out, fun i r hi => by
              obtain ⟨A', c', g1, g2, g3⟩ := HV1.out.row i r hi
              exact ⟨A', c', g1, g2.below HB3.out (Nat.le_refl _), g3⟩, HV1.out.len, HV1.out.blk⟩
            refine hv3.push (r := full (c + UInt8.ofNat t)) (A2 := A3) (c2 := c3) (fun b hb => .inl hb) HS3.out (fun b o hn hA => ?_) hrn4 hf4 ho4 (fun b hb hlo => .inr ⟨by omega, hrn4.lt hb⟩)
            have := HL3.out b o hn hA
            have := HS3.out.lt (by decide) (by decide) hA
            exact ⟨.inr ⟨by omega, by omega⟩, fun hq => by have := hold1 b (HV1.out.blk b hq); omega⟩)
          have hbr4 : Below wr.heap.size wr w3 := HB3.out
          have RN4 := Lib.hid ((HV2.out.rn.later HB3.out).fr hf4 (fun b hb hq => (TW.out.one b (HV1.out.blk b hq)).2.2 (HV2.out.blk b hb)))
          have HV4 := Lib.hid (show Ngv bcells 56 w4 T2 A2 t c2 (aK t) vs2 from ⟨RN4.out, fun i r hi => by
            obtain ⟨A', c', g1, g2, g3⟩ := HV2.out.row i r hi
            exact ⟨A', c', g1, (g2.below HB3.out (Nat.le_refl _)).fr hf4 (fun b o hn hA hq => (TW.out.one b (HV1.out.blk b hq)).2.2 (g3 b o hn hA).1), g3⟩, HV2.out.len, HV2.out.blk⟩)
          have HB4 := Lib.hid (show Below w2.heap.size w2 w4 from (HB.out.trans (HB3.out.mono HB.out.size)).trans (hf4.below (by have := HB.out.size; omega) (fun b hb => (TW.out.one b (HV1.out.blk b hb)).1)))
          have HZ4 := Lib.hid (show wr.heap.size ≤ w4.heap.size by omega)
          clear hrn4 hf4 ho4 hz3 hz4 hold1 hbr4
          have RN5 := Lib.hid (HV4.out.rn.later ((Below.refl _ _).alloc (Nat.le_refl _) (.cells #[.bool true] 4)))
          go_wp2_with (at_builtin; refine wpList_append_made2 (w := w4.alloc (.cells #[.bool true] 4)) (T := 56) (v := .slice (some ⟨w4.heap.size, 0, none⟩) 1 1) rfl (.tmp 81) (.tmp 83) 31 31 rfl j0 (.slice none 0 0) 24 Try.underlying31 Try.underlying31 Hj.out Hy0.out Hy1.out Hy2.out rfl (by decide) rfl RN5.out (w4.heap.size + 1) (by simp) rfl rfl (by omega) ?pe)
          intro A5 c5 w5 hrn5 hf5 ho5
          have hb45 : Below w4.heap.size w4 (w4.alloc (.cells #[.bool true] 4)) := (Below.refl _ _).alloc (Nat.le_refl _) _
          have hz45 : (w4.alloc (.cells #[.bool true] 4)).heap.size = w4.heap.size + 1 := by simp
          have hz5 := hf5.size
          have hold2 : ∀ b, T2 b → b < w4.heap.size := fun b hb => by have := (TW.out.two b hb).2; have := HZ4.out; omega
          have NG5 := Lib.hid (show Ng bcells 56 w5 (fun b => T2 b ∨ w4.heap.size ≤ b ∧ b < w5.heap.size) A5 (t + 1) c5 (aK (t + 1)) by
            rw [aK_next]
            have hv5 : Ngv bcells 56 (w4.alloc (.cells #[.bool true] 4)) T2 A2 t c2 (aK t) vs2 := ⟨RN5.out, fun i r hi => by
              obtain ⟨A', c', g1, g2, g3⟩ := HV4.out.row i r hi
              exact ⟨A', c', g1, g2.below hb45 (Nat.le_refl _), g3⟩, HV4.out.len, HV4.out.blk⟩
            refine hv5.push (r := [true]) (A2 := some ⟨w4.heap.size, 0, none⟩) (c2 := 1) (fun b hb => .inl hb) (Sl.made w4 #[.bool true] 4 1 1 rfl (by decide)) (fun b o hn hA => ?_) hrn5 hf5 (ho5.imp id (fun ⟨g, e, hg⟩ => ⟨g, e, by rw [hz45]; exact hg⟩)) (fun b hb hlo => .inr ⟨by omega, hrn5.lt hb⟩)
            injection hA with hA
            injection hA with hA _
            exact ⟨.inr ⟨by omega, by omega⟩, fun hq => by have := hold2 b (HV4.out.blk b hq); omega⟩)
          have NG4' := Lib.hid ((NG4.out.later hb45).fr hf5 (fun b hb hq => by
            have h2 := HV4.out.blk b hq
            rcases hb with hb | hb
            · exact (TW.out.one b hb).2.2 h2
            · have := (TW.out.two b h2).2
              omega))
          have HB5 := Lib.hid (show Below w2.heap.size w2 w5 from (HB4.out.trans (hb45.mono HB4.out.size)).trans (hf5.below (by have := HB4.out.size; omega) (fun b hb => (TW.out.two b (HV4.out.blk b hb)).1)))
          have TW5 := Lib.hid (TW.out.step HB.out.size HZ4.out (show w4.heap.size ≤ w5.heap.size by omega))
          clear hrn5 hf5 ho5 hb45 hz45 hz5 hold2
          go_wp2_with fail
          go_roundw
          case rel => exact ⟨t + 1, A4, c4, A5, c5, _, _, by omega, by go_num, rfl, rfl, NG4'.out, NG5.out, TW5.out, HB5.out⟩
          case measure => simp [intOf]; omega
        · obtain rfl : t = N := by omega
          have h1S : ∀ b, T1 b → ¬ S b := fun b hb hq => by have := L2.out.old hq; have := (TW.out.one b hb).1; omega
          have h2S : ∀ b, T2 b → ¬ S b := fun b hb hq => by have := L2.out.old hq; have := (TW.out.two b hb).1; omega
          have HT1 := Lib.hid (show ∀ b, T1 b → b < wr.heap.size from fun b hb => (TW.out.one b hb).2.1)
          have HT2 := Lib.hid (show ∀ b, T2 b → b < wr.heap.size from fun b hb => (TW.out.two b hb).2)
          have N1 := Lib.hid hg1.ns
          have N2 := Lib.hid hg2.ns
          have LR := Lib.hid (L2.out.later DK HB.out)
          have H1S := Lib.hid h1S
          have H2S := Lib.hid h2S
          have hP := arputrow_any DK LR.out.ap (wl_nil (fun i x hx => nd_wait ND.out hx)) (by have := XL.out; omega) (a : Int) (by omega) (by omega) N1.out h1S
          rw [XL.out, Nat.min_self, put_alive ND.out ha XL.out t (Nat.le_refl _), ← AL.out] at hP
          clear hg1 hg2 htw hB hlt ht h1S h2S L2
          go_wp2_with fail
          refine hP.mono ?_; clear hP; rintro e w6 ⟨rfl, hm⟩
          obtain ⟨S6, hL, hn6⟩ := LR.out.mut hm
          have L6 := Lib.hid hL
          have P6 := Lib.hid (hn6.apart H1S.out HT1.out)
          have M1 := Lib.hid (N1.out.fr hn6.1 H1S.out)
          have M2 := Lib.hid (N2.out.fr hn6.1 H2S.out)
          have Z6 := Lib.hid hn6.1.size
          clear hm hL hn6 N1 N2 H1S H2S LR
          have WP := Lib.hid (nd_put_wait (c := c) (a := a) ND.out XL.out)
          have YL := Lib.hid (show (putS xs (aR c t) (a : Int) t).length = t from put_len.trans XL.out)
          obtain ⟨ys, hys⟩ : ∃ ys, ys = putS xs (aR c t) (a : Int) t := ⟨_, rfl⟩
          rw [← hys] at L6 WP YL
          have HYS := Lib.hid hys
          clear hys
          go_wp2_with fail
          refine (arcopy_any DK L6.out.ap (WP.out.mono (by omega)) (by rw [YL.out]; omega)).mono ?_; rintro e w7 ⟨B, Sb, rfl, hbp, hb7, hbS⟩
          have LB7 := Lib.hid (show La Rep w w7 Sb B ys from La.of_new L6.out.bel hbp hb7 hbS)
          have LA7 := Lib.hid (L6.out.later DK hb7)
          have D7 := Lib.hid (show ∀ b, Sb b → ¬ S6 b from fun b hb hq => by have := hbS b hb; have := L6.out.old hq; omega)
          have E1 := Lib.hid (show ∀ b, T1 b → ¬ Sb b from fun b hb hq => by have := hbS b hq; have := HT1.out b hb; have := Z6.out; omega)
          have E2 := Lib.hid (show ∀ b, T2 b → ¬ Sb b from fun b hb hq => by have := hbS b hq; have := HT2.out b hb; have := Z6.out; omega)
          have M1 := Lib.hid (M1.out.later hb7)
          have M2 := Lib.hid (M2.out.later hb7)
          have Z7 := Lib.hid (show wr.heap.size ≤ w7.heap.size from Nat.le_trans Z6.out hb7.size)
          clear hbp hb7 hbS L6
          go_wp2_with fail
          have hC := arcrash_any DK LB7.out.ap (WP.out.mono (by omega)) (by rw [YL.out]; omega) M2.out E2.out
          rw [YL.out] at hC
          refine hC.mono ?_; clear hC; rintro e w8 ⟨rfl, hm⟩
          obtain ⟨S8, hLB, hLA, hD8, hn8⟩ := LB7.out.mut2 DK LA7.out D7.out hm
          have LB8 := Lib.hid hLB
          have LA8 := Lib.hid hLA
          have D8 := Lib.hid (show ∀ b, S6 b → ¬ S8 b from fun b h q => hD8 b q h)
          have M1 := Lib.hid (M1.out.fr hn8.1 E1.out)
          have Z8 := Lib.hid (show wr.heap.size ≤ w8.heap.size from Nat.le_trans Z7.out hn8.1.size)
          clear hm hLB hLA hD8 hn8 M2 E1 E2 D7 LB7 LA7
          go_wp2_with fail
          have hF := arflush_any DK LA8.out.ap (WP.out.mono (by omega)) (by rw [YL.out]; omega)
          rw [YL.out, show flushN ys t = al from by rw [HYS.out, flush_alive ND.out ha XL.out t (Nat.le_refl _), ← AL.out]] at hF
          refine hF.mono ?_; clear hF; rintro e w9 ⟨rfl, hm⟩
          obtain ⟨S9, hLA, hLB, hD9, hn9⟩ := LA8.out.mut2 DK LB8.out D8.out hm
          have LB9 := Lib.hid hLB
          have LA9 := Lib.hid hLA
          have D9 := Lib.hid hD9
          have M1 := Lib.hid (M1.out.fr hn9.1 P6.out)
          have P9 := Lib.hid (hn9.apart P6.out (fun b hb => Nat.lt_of_lt_of_le (HT1.out b hb) Z8.out))
          clear hm hLB hLA hD9 hn9 P6 D8 LB8 LA8
          go_wp2_with fail
          have W9 := Lib.hid (show Wl 1 (flushS ys t) from upTo_wl WP.out (fun i x h => flush_wait1 x 1 h) (Nat.le_refl _))
          have YL9 := Lib.hid (show (flushS ys t).length = t from upTo_len.trans YL.out)
          have hC := arcrash_any DK LA9.out.ap (W9.out.mono (by omega)) (by rw [YL9.out]; omega) (Ns.nil (enc := bcells) w9 (fun _ => False) 0 (by decide)) (fun b h => h.elim)
          rw [YL9.out] at hC
          refine hC.mono ?_; clear hC; rintro e w10 ⟨rfl, hm⟩
          obtain ⟨S10, hLA, hLB, hD10, hn10⟩ := LA9.out.mut2 DK LB9.out D9.out hm
          have WA := Lib.hid (show Wl 1 (crashS (flushS ys t) [] t) from upTo_wl W9.out (fun i x h => by rw [crash_wait]; exact Nat.zero_le _) (Nat.le_refl _))
          have WB := Lib.hid (show Wl 1 (crashS ys (aK t) t) from upTo_wl WP.out (fun i x h => by rw [crash_wait]; exact Nat.zero_le _) (Nat.le_refl _))
          have YA := Lib.hid (show (crashS (flushS ys t) [] t).length = t from upTo_len.trans YL9.out)
          have YB := Lib.hid (show (crashS ys (aK t) t).length = t from upTo_len.trans YL.out)
          have EA := Lib.hid (show crashS (flushS ys t) [] t = endA xs c t (a : Int) by rw [HYS.out]; rfl)
          have EB := Lib.hid (show crashS ys (aK t) t = endB xs c t (a : Int) by rw [HYS.out]; rfl)
          obtain ⟨fa, hfa⟩ : ∃ fa, fa = crashS (flushS ys t) [] t := ⟨_, rfl⟩
          obtain ⟨fb, hfb⟩ : ∃ fb, fb = crashS ys (aK t) t := ⟨_, rfl⟩
          rw [← hfa] at hLA WA YA EA
          rw [← hfb] at hLB WB YB EB
          have LB10 := Lib.hid hLB
          have LA10 := Lib.hid hLA
          have M1 := Lib.hid (M1.out.fr hn10.1 P9.out)
          clear hm hLB hLA hD10 hn10 P9 D9 LB9 LA9 hfa hfb W9 YL9 YL WP
          go_wp2_with fail
          have hR := arrow_any DK LA10.out.ap (a : Int) (by omega) (by omega) (WA.out.mono (by omega)) (by rw [YA.out]; omega)
          unfold RetNs at hR
          rw [rowL_len, YA.out] at hR
          refine hR.mono ?_; clear hR; rintro e w11 ⟨AX, cX, rfl, hnx, hb11⟩
          obtain ⟨bx, ox, fx, gx, rfl, hncx⟩ := hnx.fix (by omega)
          have KX := Lib.hid hncx
          have LA11 := Lib.hid (LA10.out.later DK hb11)
          have LB11 := Lib.hid (LB10.out.later DK hb11)
          have M1 := Lib.hid (M1.out.later hb11)
          clear hnx hncx hb11 LA10 LB10
          go_wp2_with fail
          have hR := arrow_any DK LB11.out.ap (a : Int) (by omega) (by omega) (WB.out.mono (by omega)) (by rw [YB.out]; omega)
          unfold RetNs at hR
          rw [rowL_len, YB.out] at hR
          refine hR.mono ?_; clear hR; rintro e w12 ⟨AY, cY, rfl, hny, hb12⟩
          obtain ⟨by_, oy, fy, gy, rfl, hncy⟩ := hny.fix (by omega)
          obtain ⟨bl, ol, fl, gl, rfl, hncl⟩ := (M1.out.later hb12).fix (by omega)
          have KY := Lib.hid hncy
          have KL := Lib.hid hncl
          have KX := Lib.hid (KX.out.later hb12)
          have LAe := Lib.hid (LA11.out.later DK hb12)
          clear hny hncy hncl hb12 LA11 LB11 M1 WA WB
          go_wp2_with fail
          go_loopw [20, 21] (fun v i wr => ∃ q y : Nat, q ≤ t ∧ y = aliveN xs q ∧ y ≤ q ∧ i = .int .i64 (q : Int) ∧ v = .int .i64 (y : Int) ∧ Below w12.heap.size w12 wr) (fun _ i _ => t - (intOf i).toNat)
          case atStart => exact ⟨0, 0, by omega, by simp [aliveN, goneA], by omega, rfl, rfl, Below.refl _ _⟩
          case round =>
            obtain ⟨q, y, hq, hy, hyq, rfl, rfl, hB⟩ := hrel
            have HBr := Lib.hid hB
            have HY := Lib.hid hy
            clear hB hy
            by_cases hqt : q < t
            · have hqi : (q : Int) < (t : Int) := by omega
              obtain ⟨x, hx⟩ : ∃ x, xs[q]? = some x := ⟨_, List.getElem?_eq_getElem (by have := XL.out; omega)⟩
              have hga := nd_gone ND.out hx ha (c + UInt8.ofNat q)
              have hEA : fa[q]? = some (finA a (c + UInt8.ofNat q) x) := by rw [EA.out]; exact endA_at hx XL.out
              have hEB : fb[q]? = some (finB a (c + UInt8.ofNat q) x) := by rw [EB.out]; exact endB_at hx XL.out
              have hD := ardead_any DK (LAe.out.later DK HBr.out).ap (by rw [YA.out]; omega) (q : Int)
              rw [tellD_yes hEA, hga.1] at hD
              have hn := aliveN_next hx
              have hkx := KX.out.later HBr.out
              have hky := KY.out.later HBr.out
              have hkl := KL.out.later HBr.out
              obtain ⟨g, hg⟩ : ∃ g, g = x.gone := ⟨_, rfl⟩
              rw [← hg] at hD hn hga
              obtain ⟨l, hl⟩ : ∃ l, l = full (c + UInt8.ofNat q) := ⟨_, rfl⟩
              cases g
              · rw [if_pos rfl, ← HY.out] at hn
                have HNx := Lib.hid hn
                obtain ⟨e1, e2⟩ := hga.2.1 rfl
                have rx : (rowL fa (a : Int))[q]? = some l := by rw [rowL_at hEA, e1, hl]
                have ry : (rowL fb (a : Int))[q]? = some l := by rw [rowL_at hEB, e2, hl]
                have rl : (aR c t)[q]? = some l := by rw [aR_at (by omega), hl]
                have hc1 := hkx.cell q l rx
                have hc2 := hky.cell q l ry
                have hc3 := hkl.cell q l rl
                have hs1 := hkx.sl q l rx
                have hs2 := hky.sl q l ry
                have hs3 := hkl.sl q l rl
                have C1 := Lib.hid hc1
                have C2 := Lib.hid hc2
                have C3 := Lib.hid hc3
                have S1' := Lib.hid hs1
                have S2' := Lib.hid hs2
                have S3' := Lib.hid hs3
                clear hc1 hc2 hc3 hs1 hs2 hs3 rx ry rl e1 e2 hga hEA hEB hkx hky hkl hg hl hn hx
                go_wp2_with fail
                refine hD.mono ?_; clear hD; rintro e w13 ⟨rfl, hb13⟩
                have hbd : Below wr.heap.size wr w13.drew := Below.drew hb13
                have KXc := Lib.hid ((Fr.of_below hbd : Fr (fun _ => False) _ _).cell_some C1.out (fun h => h))
                have KYc := Lib.hid ((Fr.of_below hbd : Fr (fun _ => False) _ _).cell_some C2.out (fun h => h))
                have KLc := Lib.hid ((Fr.of_below hbd : Fr (fun _ => False) _ _).cell_some C3.out (fun h => h))
                have SX := Lib.hid (S1'.out.below hbd (Nat.le_refl _))
                have SY := Lib.hid (S2'.out.below hbd (Nat.le_refl _))
                have SL := Lib.hid (S3'.out.below hbd (Nat.le_refl _))
                have HB13 := Lib.hid (HBr.out.trans (hb13.mono HBr.out.size))
                clear hb13 hbd
                go_wp2_with fail
                refine wp_region_held_drew (S := fun w' => Fr (fun _ => False) w13.drew w') (by kernel_rfl) (Fr.refl _ _) (fun hHeld => ?_)
                clear hHeld
                refine wpAnyH_take (i := 0) (oi := ⟨some 142, _, _, _, _, _⟩) (v := ?vz0) rfl (by kernel_rfl) (by kernel_rfl) (by kernel_rfl) (fun _ _ _ h => h) (Or.inl ⟨by rfl, ?yz0⟩) (Fr.refl _ _) ?rz0
                case yz0 =>
                  intro wq hSw
                  (try dsimp only at hSw)
                  first | (go_simp; done) | (go_simp; with_reducible rfl)
                try simp only [Act.put, List.setIfInBounds_toArray, List.set_cons_zero, List.set_cons_succ]
                refine wpAnyH_take (i := 1) (oi := ⟨some 143, _, _, _, _, _⟩) (v := ?vz1) rfl (by kernel_rfl) (by kernel_rfl) (by kernel_rfl) (fun _ _ _ h => h) (Or.inl ⟨by rfl, ?yz1⟩) (Fr.refl _ _) ?rz1
                case yz1 =>
                  intro wq hSw
                  (try dsimp only at hSw)
                  first | (go_simp; done) | (go_simp; with_reducible rfl)
                try simp only [Act.put, List.setIfInBounds_toArray, List.set_cons_zero, List.set_cons_succ]
                refine wpAnyH_take (i := 2) (oi := ⟨some 144, _, _, _, _, _⟩) (v := ?vz2) rfl (by kernel_rfl) (by kernel_rfl) (by kernel_rfl) (fun _ _ _ h => h) (Or.inl ⟨by rfl, ?yz2⟩) (Fr.refl _ _) ?rz2
                case yz2 =>
                  intro wq hSw
                  (try dsimp only at hSw)
                  first | (go_simp; done) | (go_simp; with_reducible rfl)
                try simp only [Act.put, List.setIfInBounds_toArray, List.set_cons_zero, List.set_cons_succ]
                refine wpAnyH_take (i := 3) (oi := ⟨some 145, _, _, _, _, _⟩) (v := ?vz3) rfl (by kernel_rfl) (by kernel_rfl) (by kernel_rfl) (fun _ _ _ h => h) (Or.inl ⟨by rfl, ?yz3⟩) (Fr.refl _ _) ?rz3
                case yz3 =>
                  intro wq hSw
                  (try dsimp only at hSw)
                  have hq := hSw.cell_some KXc.out (fun h => h)
                  first | (go_simp; done) | (go_simp; with_reducible rfl)
                try simp only [Act.put, List.setIfInBounds_toArray, List.set_cons_zero, List.set_cons_succ]
                refine wpAnyH_take (i := 4) (oi := ⟨some 146, _, _, _, _, _⟩) (v := ?vz4) rfl (by kernel_rfl) (by kernel_rfl) (by kernel_rfl) (fun _ _ _ h => h) (Or.inl ⟨by rfl, ?yz4⟩) (Fr.refl _ _) ?rz4
                case yz4 =>
                  intro wq hSw
                  (try dsimp only at hSw)
                  have kk := str_of (SX.out.fr hSw (fun _ _ _ _ h => h))
                  first | (go_simp; done) | (go_simp; with_reducible rfl)
                try simp only [Act.put, List.setIfInBounds_toArray, List.set_cons_zero, List.set_cons_succ]
                refine wpAnyH_take (i := 5) (oi := ⟨some 147, _, _, _, _, _⟩) (v := ?vz5) rfl (by kernel_rfl) (by kernel_rfl) (by kernel_rfl) (fun _ _ _ h => h) (Or.inl ⟨by rfl, ?yz5⟩) (Fr.refl _ _) ?rz5
                case yz5 =>
                  intro wq hSw
                  (try dsimp only at hSw)
                  first | (go_simp; done) | (go_simp; with_reducible rfl)
                try simp only [Act.put, List.setIfInBounds_toArray, List.set_cons_zero, List.set_cons_succ]
                refine wpAnyH_take (i := 6) (oi := ⟨some 148, _, _, _, _, _⟩) (v := ?vz6) rfl (by kernel_rfl) (by kernel_rfl) (by kernel_rfl) (fun _ _ _ h => h) (Or.inl ⟨by rfl, ?yz6⟩) (Fr.refl _ _) ?rz6
                case yz6 =>
                  intro wq hSw
                  (try dsimp only at hSw)
                  first | (go_simp; done) | (go_simp; with_reducible rfl)
                try simp only [Act.put, List.setIfInBounds_toArray, List.set_cons_zero, List.set_cons_succ]
                refine wpAnyH_take (i := 7) (oi := ⟨some 149, _, _, _, _, _⟩) (v := ?vz7) rfl (by kernel_rfl) (by kernel_rfl) (by kernel_rfl) (fun _ _ _ h => h) (Or.inl ⟨by rfl, ?yz7⟩) (Fr.refl _ _) ?rz7
                case yz7 =>
                  intro wq hSw
                  (try dsimp only at hSw)
                  first | (go_simp; done) | (go_simp; with_reducible rfl)
                try simp only [Act.put, List.setIfInBounds_toArray, List.set_cons_zero, List.set_cons_succ]
                refine wpAnyH_take (i := 8) (oi := ⟨some 150, _, _, _, _, _⟩) (v := ?vz8) rfl (by kernel_rfl) (by kernel_rfl) (by kernel_rfl) (fun _ _ _ h => h) (Or.inl ⟨by rfl, ?yz8⟩) (Fr.refl _ _) ?rz8
                case yz8 =>
                  intro wq hSw
                  (try dsimp only at hSw)
                  have hq := hSw.cell_some KLc.out (fun h => h)
                  first | (go_simp; done) | (go_simp; with_reducible rfl)
                try simp only [Act.put, List.setIfInBounds_toArray, List.set_cons_zero, List.set_cons_succ]
                refine wpAnyH_take (i := 9) (oi := ⟨some 151, _, _, _, _, _⟩) (v := ?vz9) rfl (by kernel_rfl) (by kernel_rfl) (by kernel_rfl) (fun _ _ _ h => h) (Or.inl ⟨by rfl, ?yz9⟩) (Fr.refl _ _) ?rz9
                case yz9 =>
                  intro wq hSw
                  (try dsimp only at hSw)
                  have kk := str_of (SL.out.fr hSw (fun _ _ _ _ h => h))
                  first | (go_simp; done) | (go_simp; with_reducible rfl)
                try simp only [Act.put, List.setIfInBounds_toArray, List.set_cons_zero, List.set_cons_succ]
                refine wpAnyH_take (i := 10) (oi := ⟨some 152, _, _, _, _, _⟩) (v := ?vz10) rfl (by kernel_rfl) (by kernel_rfl) (by kernel_rfl) (fun _ _ _ h => h) (Or.inl ⟨by rfl, ?yz10⟩) (Fr.refl _ _) ?rz10
                case yz10 =>
                  intro wq hSw
                  (try dsimp only at hSw)
                  first | (go_simp; done) | (go_simp; with_reducible rfl)
                try simp only [Act.put, List.setIfInBounds_toArray, List.set_cons_zero, List.set_cons_succ]
                refine wpAnyH_take (i := 11) (oi := ⟨some 153, _, _, _, _, _⟩) (v := ?vz11) rfl (by kernel_rfl) (by kernel_rfl) (by kernel_rfl) (fun _ _ _ h => h) (Or.inl ⟨by rfl, ?yz11⟩) (Fr.refl _ _) ?rz11
                case yz11 =>
                  intro wq hSw
                  (try dsimp only at hSw)
                  first | (go_simp; done) | (go_simp; with_reducible rfl)
                try simp only [Act.put, List.setIfInBounds_toArray, List.set_cons_zero, List.set_cons_succ]
                refine wpAnyH_take (i := 12) (oi := ⟨some 154, _, _, _, _, _⟩) (v := ?vz12) rfl (by kernel_rfl) (by kernel_rfl) (by kernel_rfl) (fun _ _ _ h => h) (Or.inl ⟨by rfl, ?yz12⟩) (Fr.refl _ _) ?rz12
                case yz12 =>
                  intro wq hSw
                  (try dsimp only at hSw)
                  first | (go_simp; done) | (go_simp; with_reducible rfl)
                try simp only [Act.put, List.setIfInBounds_toArray, List.set_cons_zero, List.set_cons_succ]
                refine wpAnyH_take (i := 13) (oi := ⟨some 155, _, _, _, _, _⟩) (v := ?vz13) rfl (by kernel_rfl) (by kernel_rfl) (by kernel_rfl) (fun _ _ _ h => h) (Or.inl ⟨by rfl, ?yz13⟩) (Fr.refl _ _) ?rz13
                case yz13 =>
                  intro wq hSw
                  (try dsimp only at hSw)
                  first | (go_simp; done) | (go_simp; with_reducible rfl)
                try simp only [Act.put, List.setIfInBounds_toArray, List.set_cons_zero, List.set_cons_succ]
                refine wpAnyH_take (i := 14) (oi := ⟨some 156, _, _, _, _, _⟩) (v := ?vz14) rfl (by kernel_rfl) (by kernel_rfl) (by kernel_rfl) (fun _ _ _ h => h) (Or.inl ⟨by rfl, ?yz14⟩) (Fr.refl _ _) ?rz14
                case yz14 =>
                  intro wq hSw
                  (try dsimp only at hSw)
                  first | (go_simp; done) | (go_simp; with_reducible rfl)
                try simp only [Act.put, List.setIfInBounds_toArray, List.set_cons_zero, List.set_cons_succ]
                refine wpAnyH_take (i := 15) (oi := ⟨some 157, _, _, _, _, _⟩) (v := ?vz15) rfl (by kernel_rfl) (by kernel_rfl) (by kernel_rfl) (fun _ _ _ h => h) (Or.inl ⟨by rfl, ?yz15⟩) (Fr.refl _ _) ?rz15
                case yz15 =>
                  intro wq hSw
                  (try dsimp only at hSw)
                  have hq := hSw.cell_some KYc.out (fun h => h)
                  first | (go_simp; done) | (go_simp; with_reducible rfl)
                try simp only [Act.put, List.setIfInBounds_toArray, List.set_cons_zero, List.set_cons_succ]
                refine wpAnyH_take (i := 16) (oi := ⟨some 158, _, _, _, _, _⟩) (v := ?vz16) rfl (by kernel_rfl) (by kernel_rfl) (by kernel_rfl) (fun _ _ _ h => h) (Or.inl ⟨by rfl, ?yz16⟩) (Fr.refl _ _) ?rz16
                case yz16 =>
                  intro wq hSw
                  (try dsimp only at hSw)
                  have kk := str_of (SY.out.fr hSw (fun _ _ _ _ h => h))
                  first | (go_simp; done) | (go_simp; with_reducible rfl)
                try simp only [Act.put, List.setIfInBounds_toArray, List.set_cons_zero, List.set_cons_succ]
                refine wpAnyH_take (i := 17) (oi := ⟨some 159, _, _, _, _, _⟩) (v := ?vz17) rfl (by kernel_rfl) (by kernel_rfl) (by kernel_rfl) (fun _ _ _ h => h) (Or.inl ⟨by rfl, ?yz17⟩) (Fr.refl _ _) ?rz17
                case yz17 =>
                  intro wq hSw
                  (try dsimp only at hSw)
                  first | (go_simp; done) | (go_simp; with_reducible rfl)
                try simp only [Act.put, List.setIfInBounds_toArray, List.set_cons_zero, List.set_cons_succ]
                refine wpAnyH_take (i := 18) (oi := ⟨some 160, _, _, _, _, _⟩) (v := ?vz18) rfl (by kernel_rfl) (by kernel_rfl) (by kernel_rfl) (fun _ _ _ h => h) (Or.inl ⟨by rfl, ?yz18⟩) (Fr.refl _ _) ?rz18
                case yz18 =>
                  intro wq hSw
                  (try dsimp only at hSw)
                  first | (go_simp; done) | (go_simp; with_reducible rfl)
                try simp only [Act.put, List.setIfInBounds_toArray, List.set_cons_zero, List.set_cons_succ]
                refine wpAnyH_take (i := 19) (oi := ⟨some 161, _, _, _, _, _⟩) (v := ?vz19) rfl (by kernel_rfl) (by kernel_rfl) (by kernel_rfl) (fun _ _ _ h => h) (Or.inl ⟨by rfl, ?yz19⟩) (Fr.refl _ _) ?rz19
                case yz19 =>
                  intro wq hSw
                  (try dsimp only at hSw)
                  first | (go_simp; done) | (go_simp; with_reducible rfl)
                try simp only [Act.put, List.setIfInBounds_toArray, List.set_cons_zero, List.set_cons_succ]
                refine wpAnyH_take (i := 20) (oi := ⟨some 162, _, _, _, _, _⟩) (v := ?vz20) rfl (by kernel_rfl) (by kernel_rfl) (by kernel_rfl) (fun _ _ _ h => h) (Or.inl ⟨by rfl, ?yz20⟩) (Fr.refl _ _) ?rz20
                case yz20 =>
                  intro wq hSw
                  (try dsimp only at hSw)
                  have hq := hSw.cell_some KLc.out (fun h => h)
                  first | (go_simp; done) | (go_simp; with_reducible rfl)
                try simp only [Act.put, List.setIfInBounds_toArray, List.set_cons_zero, List.set_cons_succ]
                refine wpAnyH_take (i := 21) (oi := ⟨some 163, _, _, _, _, _⟩) (v := ?vz21) rfl (by kernel_rfl) (by kernel_rfl) (by kernel_rfl) (fun _ _ _ h => h) (Or.inl ⟨by rfl, ?yz21⟩) (Fr.refl _ _) ?rz21
                case yz21 =>
                  intro wq hSw
                  (try dsimp only at hSw)
                  have kk := str_of (SL.out.fr hSw (fun _ _ _ _ h => h))
                  first | (go_simp; done) | (go_simp; with_reducible rfl)
                try simp only [Act.put, List.setIfInBounds_toArray, List.set_cons_zero, List.set_cons_succ]
                refine wpAnyH_take (i := 22) (oi := ⟨some 164, _, _, _, _, _⟩) (v := ?vz22) rfl (by kernel_rfl) (by kernel_rfl) (by kernel_rfl) (fun _ _ _ h => h) (Or.inl ⟨by rfl, ?yz22⟩) (Fr.refl _ _) ?rz22
                case yz22 =>
                  intro wq hSw
                  (try dsimp only at hSw)
                  first | (go_simp; done) | (go_simp; with_reducible rfl)
                try simp only [Act.put, List.setIfInBounds_toArray, List.set_cons_zero, List.set_cons_succ]
                refine wpAnyH_take (i := 23) (oi := ⟨some 165, _, _, _, _, _⟩) (v := ?vz23) rfl (by kernel_rfl) (by kernel_rfl) (by kernel_rfl) (fun _ _ _ h => h) (Or.inl ⟨by rfl, ?yz23⟩) (Fr.refl _ _) ?rz23
                case yz23 =>
                  intro wq hSw
                  (try dsimp only at hSw)
                  first | (go_simp; done) | (go_simp; with_reducible rfl)
                try simp only [Act.put, List.setIfInBounds_toArray, List.set_cons_zero, List.set_cons_succ]
                refine wpAnyH_done (by kernel_rfl) ?_ _
                go_wp2_with fail
                go_roundw
                case rel => exact ⟨q + 1, y + 1, by omega, HNx.out.symm, by omega, by go_num, by go_num, Below.drew HB13.out⟩
                case measure => simp [intOf]; omega
              · rw [if_neg (by decide), ← HY.out] at hn
                have HNx := Lib.hid hn
                obtain ⟨e1, e2⟩ := hga.2.2 rfl
                have rx : (rowL fa (a : Int))[q]? = some [] := by rw [rowL_at hEA, e1]
                have ry : (rowL fb (a : Int))[q]? = some [] := by rw [rowL_at hEB, e2]
                have C1 := Lib.hid (show wr.cell? ⟨bx, ox + q, none⟩ = some (.slice (fx q) 0 (gx q)) from hkx.cell q [] rx)
                have C2 := Lib.hid (show wr.cell? ⟨by_, oy + q, none⟩ = some (.slice (fy q) 0 (gy q)) from hky.cell q [] ry)
                clear rx ry e1 e2 hga hEA hEB hkx hky hkl hg hl hn hx
                go_wp2_with fail
                refine hD.mono ?_; clear hD; rintro e w13 ⟨rfl, hb13⟩
                have k1 := (Fr.of_below hb13 : Fr (fun _ => False) _ _).cell_some C1.out (fun h => h)
                have k2 := (Fr.of_below hb13 : Fr (fun _ => False) _ _).cell_some C2.out (fun h => h)
                have HB13 := Lib.hid (HBr.out.trans (hb13.mono HBr.out.size))
                clear hb13
                go_wp2_with fail
                go_roundw
                case rel => exact ⟨q + 1, y, by omega, HNx.out.symm, by omega, by go_num, rfl, HB13.out⟩
                case measure => simp [intOf]; omega
            · obtain rfl : q = t := by omega
              obtain rfl : y = al := by rw [HY.out, AL.out]
              go_wp2_with fail
              refine (stands10_any DK _).mono ?_; rintro e w14 ⟨rfl, hb14⟩
              have HE := Lib.hid (LAe.out.bel.trans ((HBr.out.trans (hb14.mono HBr.out.size)).mono LAe.out.bel.size))
              clear hb14
              go_wp2_with fail
              go_ret
              exact ⟨rfl, HE.out⟩
end
end Go.Proofs.Ytjjoeaneaibklaa

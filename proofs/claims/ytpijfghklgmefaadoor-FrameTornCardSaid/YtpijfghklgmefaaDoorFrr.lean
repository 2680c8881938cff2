/-
  The statement's function FrameSpoilt returns true, whatever its arguments. Condition: crc's table.
-/
import Derived.Test.YtpijfghklgmefaaDoorFrq
import Derived.Test.YtpijfghklgmefaaDoorFrf
namespace Go.Proofs.YtpijfghklgmefaaDoor
open Go.RowKit Go.Proofs
set_option linter.unusedVariables false
set_option maxRecDepth 20000
set_option maxHeartbeats 3200000

theorem byte_at17 (m : Nat) (i : Nat) (hi : i < 4) : (m : Int) / 2 ^ (8 * i) % 256 = (((le 4 m).getD i 0).toNat : Int) := by rw [le_byte_at, le_getD m 4 i hi]
theorem cutN_flat (long : Nat) : ∀ (k : Nat) (a : Bool) (s : W32) (b : List UInt8), (cutN long k a s b).flatten.length ≤ b.length + 7 * k
  | 0, _, _, _ => by simp [cutN]
  | 1, _, _, _ => by simp [cutN, pcF_len]
  | k + 2, a, s, b => by
    have := cutN_flat long (k + 1) false (smF (mkF a false) (b.take long) s) (b.drop long)
    rw [cutN, List.flatten_cons, List.length_append, pcF_len]
    have h1 : (b.take long).length + (b.drop long).length = b.length := by rw [← List.length_append, List.take_append_drop]
    omega
theorem manyF_small (long n : Nat) : manyF long n ≤ n + 1 := by
  unfold manyF
  have := Nat.div_le_self (n - 1) long
  omega
theorem cutF_flat (long : Nat) (b : List UInt8) : (cutF long b).flatten.length ≤ 8 * b.length + 7 := by
  have h1 := cutN_flat long (manyF long b.length) true 0 b
  have h2 := manyF_small long b.length
  rw [cutF]
  omega
theorem flat_set17 : ∀ (l : List (List UInt8)) (i : Nat) (p q : List UInt8), l[i]? = some p → q.length = p.length → (l.set i q).flatten.length = l.flatten.length
  | [], i, p, q, h, _ => by simp at h
  | x :: r, 0, p, q, h, hq => by
    obtain rfl : x = p := by simpa using h
    simp [hq]
  | x :: r, i + 1, p, q, h, hq => by
    have := flat_set17 r i p q (by simpa using h) hq
    simp only [List.set_cons_succ, List.flatten_cons, List.length_append, this]
/-- Which piece, and where in it. -/
def AtK (n : Nat) (w : World) (v : Value) (wx : World) : Prop := ∃ f : Nat, f < n ∧ v = .int .i64 (f : Int) ∧ w = wx

theorem frameSpoilt_walk (A : Option Addr) (cp : Nat) (l : List UInt8) (room wh off : Int) (mask : W32) (w : World) (r1 : -9223372036854775808 ≤ room ∧ room < 9223372036854775808) (b1 : -9223372036854775808 ≤ wh ∧ wh < 9223372036854775808) (o1 : -9223372036854775808 ≤ off ∧ off < 9223372036854775808) (hs : Sl w 1 A l.length cp (cells l)) (hN : Nt w) :
    Calls Tryd.prog 6 #[.slice A l.length cp, .int .i64 room, .int .i64 wh, .int .i64 off, .int .u32 (mask.toNat : Int)] w (SaysTrue w) := by
  obtain ⟨n, hn⟩ : ∃ n, n = l.length := ⟨_, rfl⟩
  rw [← hn] at hs ⊢
  have HL := Lib.hid hn
  clear hn
  obtain ⟨r1, r2⟩ := r1
  obtain ⟨b1, b2⟩ := b1
  obtain ⟨o1, o2⟩ := o1
  have hlim := hs.lim
  unfold maxLen at hlim
  have HN := Lib.hid hN
  have HS := Lib.hid hs
  clear hN hs
  have hf := frames17 w HN.out
  by_cases c1 : 500 < n
  · have c1' : (500 : Int) < (n : Int) := by omega
    go_enter Tryd.func6, Tryd.ntmps6
    go_wp2_with fail
    refine hf.mono ?_; rintro e w1 ⟨rfl, hb1⟩
    go_wp2_with fail
    go_ret
    exact ⟨rfl, hb1⟩
  have c1' : ¬ (500 : Int) < (n : Int) := by omega
  by_cases c2 : room < 12
  · go_enter Tryd.func6, Tryd.ntmps6
    go_wp2_with fail
    refine hf.mono ?_; rintro e w1 ⟨rfl, hb1⟩
    go_wp2_with fail
    go_ret
    exact ⟨rfl, hb1⟩
  by_cases c3 : 200 < room
  · go_enter Tryd.func6, Tryd.ntmps6
    go_wp2_with fail
    refine hf.mono ?_; rintro e w1 ⟨rfl, hb1⟩
    go_wp2_with fail
    go_ret
    exact ⟨rfl, hb1⟩
  by_cases hm0 : mask = 0
  · have hd3 : ((mask.toNat : Int) == 0) = true := by rw [hm0]; rfl
    clear hm0
    go_enter Tryd.func6, Tryd.ntmps6
    go_wp2_with fail
    refine hf.mono ?_; rintro e w1 ⟨rfl, hb1⟩
    go_wp2_with fail
    go_ret
    exact ⟨rfl, hb1⟩
  have hd3 : ((mask.toNat : Int) == 0) = false := by
    rw [beq_eq_false_iff_ne]
    intro e
    exact hm0 (BitVec.eq_of_toNat_eq (by simpa using e))
  have Hm0 := Lib.hid hm0
  clear hm0 hf
  obtain ⟨long, hlong⟩ : ∃ long : Nat, room = (long : Int) + 7 := ⟨(room - 7).toNat, by omega⟩
  have HR := Lib.hid hlong
  have g1 : 1 ≤ long := by omega
  have g2 : long ≤ 65528 := by omega
  have hcut := cut17_any A n cp l room long hlong g1 g2 w HS.out (by omega) HN.out
  clear hlong
  go_enter Tryd.func6, Tryd.ntmps6
  go_wp2_with fail
  refine hcut.mono ?_; clear hcut; rintro e w1 ⟨g, k, rfl, hgm, hb1⟩
  have hlen := hgm.gr.len
  have hk0 : 0 < k := by rw [← hlen, cutF_len]; exact manyF_pos _ _
  have hkm : k ≤ n + 1 := by rw [← hlen, cutF_len, HL.out]; exact manyF_small _ _
  have hkz : ((k : Int) == 0) = false := by rw [beq_eq_false_iff_ne]; omega
  have GM := Lib.hid hgm
  have B1 := Lib.hid hb1
  have HK := Lib.hid hlen
  have N1 := Lib.hid (HN.out.keep hb1)
  clear hgm hb1 hlen
  go_upto_region 6 with (fail)
  go_cut [13] (fun v wx => AtK k w1 v wx)
  case first =>
    go_wp2_with fail
    all_goals
      go_meet
      exact ⟨(max 0 (min wh ((k : Int) - 1))).toNat, by omega, by congr 1; omega, rfl⟩
  case rest =>
    obtain ⟨i, hi, rfl, rfl⟩ := hcut
    have hii : (i : Int) < (k : Int) := by omega
    obtain ⟨p, hp⟩ : ∃ p, (cutF long l)[i]? = some p := ⟨_, List.getElem?_eq_getElem (by rw [HK.out]; exact hi)⟩
    obtain ⟨b, o, hbo, hrow⟩ := GM.out.gr.at_ hk0
    injection hbo with hbo
    injection hbo with hbg hbo
    subst hbg hbo
    obtain ⟨A1, c1, e1, _⟩ := hrow i p hp
    obtain ⟨P, hP⟩ : ∃ P, P = p.length := ⟨_, rfl⟩
    rw [← hP] at e1
    rw [Nat.zero_add] at e1
    have HP := Lib.hid hP
    have Hp := Lib.hid hp
    have hPl : P ≤ 5000 := by
      have h1 := cutF_flat long l
      have h2 : p.length ≤ (cutF long l).flatten.length := (List.Sublist.length_le (List.sublist_flatten_of_mem (List.mem_of_getElem? hp)))
      have h3 := HL.out
      omega
    clear hrow hP hp
    by_cases c4 : P < 11
    · have c4' : (P : Int) < 11 := by omega
      go_wp2_with fail
      refine (frames17 w1 N1.out).mono ?_; rintro e w2 ⟨rfl, hb2⟩
      go_wp2_with fail
      go_ret
      exact ⟨rfl, B1.out.trans (hb2.mono B1.out.size)⟩
    · have c4' : ¬ (P : Int) < 11 := by omega
      go_upto_region 9 with (fail)
      go_cut [14] (fun v wx => ∃ f : Nat, 7 + f + 4 ≤ P ∧ v = .int .i64 ((7 + f : Nat) : Int) ∧ w1 = wx)
      case first =>
        go_wp2_with fail
        all_goals
          go_meet
          exact ⟨(max 0 (min off ((P : Int) - 11))).toNat, by omega, by congr 1; omega, rfl⟩
      case rest =>
        obtain ⟨f, hf, rfl, rfl⟩ := hcut
        obtain ⟨a, ha⟩ : ∃ a, a = 7 + f := ⟨_, rfl⟩
        rw [← ha] at hf ⊢
        have HA := Lib.hid ha
        clear ha e1
        go_wp2_with fail
        go_loopw [15] (fun iv wr => ∃ j : Nat, j ≤ 4 ∧ iv = .int .i64 (j : Int) ∧ Below w.heap.size w wr ∧ Gm wr w.heap.size (some ⟨g, 0, none⟩) k k ((cutF long l).set i (chg p a (le 4 mask.toNat) j))) (fun iv _ => 4 - (intOf iv).toNat)
        case atStart => exact ⟨0, by omega, rfl, B1.out, by
          obtain ⟨hx, e⟩ := List.getElem?_eq_some_iff.1 Hp.out
          rw [chg_zero, ← e, List.set_getElem_self]
          exact GM.out⟩
        case round =>
          obtain ⟨j, hj, rfl, hb, hgm⟩ := hrel
          have hil : i < (cutF long l).length := by rw [HK.out]; exact hi
          by_cases hlt : j < 4
          · obtain ⟨c, hc⟩ : ∃ c, c = chg p a (le 4 mask.toNat) j := ⟨_, rfl⟩
            have hcl : c.length = P := by rw [hc, chg_length, ← HP.out]
            have hqp : a + j < p.length := by rw [← HP.out]; omega
            have hu := chg_at p a (le 4 mask.toNat) j hqp
            have hnx := chg_next p a (le 4 mask.toNat) j hqp (by rw [le_length]; exact hlt)
            rw [← hc] at hu hnx hgm
            obtain ⟨u, hu'⟩ : ∃ u, u = p[a + j] := ⟨_, rfl⟩
            rw [← hu'] at hu hnx
            have hbt := byte_at17 mask.toNat j hlt
            rw [List.getD_eq_getElem?_getD, List.getElem?_eq_getElem (by rw [le_length]; exact hlt), Option.getD_some] at hbt
            obtain ⟨v, hv'⟩ : ∃ v, v = (le 4 mask.toNat)[j]'(by rw [le_length]; exact hlt) := ⟨_, rfl⟩
            rw [← hv'] at hbt hnx
            obtain ⟨q, hq⟩ : ∃ q, q = a + j := ⟨_, rfl⟩
            rw [← hq] at hu hnx
            have hq1 : (a : Int) + (j : Int) = (q : Int) := by omega
            have hqn : q < P := by omega
            have hqi : (q : Int) < (P : Int) := by omega
            obtain ⟨b, o, gg, cc, hbo, hne, hB, hrow, hcs, hset⟩ := hgm.at_ (a := i) (r := c) (by rw [List.getElem?_set_self hil]) (by omega)
            injection hbo with hbo
            injection hbo with hbg hbo
            subst hbg hbo
            rw [hcl, Nat.zero_add] at hrow
            rw [hcl] at hcs hset
            obtain ⟨hcell, hfz⟩ := hcs q hqn
            rw [List.getD_eq_getElem?_getD, hu, Option.getD_some] at hcell
            have hset2 := hset q (u ^^^ v) hqn
            rw [List.set_set, hnx] at hset2
            have Hset := Lib.hid hset2
            have hxr := xor_b u v
            have Hx := Lib.hid hxr
            clear hset hset2 hcs hgm hnx hu hu' hv' hqp hxr hq hcl hc
            go_wp2_with fail
            go_region
            go_wp2_with fail
            go_roundw
            case rel => exact ⟨j + 1, by omega, by go_num, (Below.setCell (p := ⟨gg, q, none⟩) hb hB _).drew, by rw [Hx.out]; exact Hset.out.later (Below.refl _ _).drew⟩
            case measure => simp [intOf]; omega
          · obtain rfl : j = 4 := by omega
            have hjo := joinF_spoilt (show 0 < long from g1) (show long < 65536 by omega) Hm0.out l i p (k := f) Hp.out (by have h1 := HP.out; have h2 := HA.out; omega)
            rw [← HA.out] at hjo
            have hfl : ((cutF long l).set i (chg p a (le 4 mask.toNat) 4)).flatten.length ≤ 1000000 := by
              rw [flat_set17 _ _ _ _ Hp.out (chg_length _ _ _ _)]
              have h1 := cutF_flat long l
              have h3 := HL.out
              omega
            obtain ⟨rs, hrs⟩ : ∃ rs, rs = (cutF long l).set i (chg p a (le 4 mask.toNat) 4) := ⟨_, rfl⟩
            rw [← hrs] at hjo hfl hgm
            have hal : allF rs = ([], 0) := by
              rw [allF, allL, hjo]
              rfl
            have hNr := HN.out.keep hb
            have hg := hgm.gr
            have hj1 := join17_any (some ⟨g, 0, none⟩) k k rs wr hg hfl (by omega) hNr
            rw [hjo] at hj1
            have BR := Lib.hid hb
            have GR := Lib.hid hg
            have HFL := Lib.hid hfl
            have HAL := Lib.hid hal
            clear hb hgm hjo hfl hrs hal hNr hg
            go_wp2_with fail
            refine hj1.mono ?_; clear hj1; rintro e w2 ⟨JA, jc, rfl, _, hb2, _⟩
            have B2 := Lib.hid (BR.out.trans (hb2.mono BR.out.size))
            have ha1 := all17_any (some ⟨g, 0, none⟩) k k rs w2 (GR.out.later hb2) HFL.out (by omega) (HN.out.keep B2.out)
            rw [HAL.out] at ha1
            clear hb2
            go_wp2_with fail
            refine ha1.mono ?_; clear ha1; rintro e w3 ⟨AA, ac, rfl, _, hb3⟩
            have B3 := Lib.hid (B2.out.trans (hb3.mono B2.out.size))
            have hfr := frames17 w3 (HN.out.keep B3.out)
            clear hb3
            go_wp2_with fail
            refine hfr.mono ?_; clear hfr; rintro e w4 ⟨rfl, hb4⟩
            go_wp2_with fail
            go_ret
            exact ⟨rfl, B3.out.trans (hb4.mono B3.out.size)⟩
end Go.Proofs.YtpijfghklgmefaaDoor

/-
  The statement's function ShardBursts returns true, whatever its arguments. Condition: the table reads as the row lists it ('Nt').
-/
import Derived.Test.YtdhbgfnfbeapcaaDoorEaq
namespace Go.Proofs.YtdhbgfnfbeapcaaDoor
open Go.RowKit Go.Proofs
set_option linter.unusedVariables false

/-- Where the bits are turned. -/
def AtS (w : World) (v : Value) (wx : World) : Prop := ∃ f : Nat, f + 4 ≤ 64 ∧ v = .int .i64 (f : Int) ∧ w = wx
set_option maxRecDepth 20000
set_option maxHeartbeats 1600000
theorem shardBursts_walk (s : Sh) (hs : s.Ok) (off : Int) (o1 : -9223372036854775808 ≤ off) (o2 : off < 9223372036854775808) (mask : W32) (w : World) (hN : Nt w) :
    Calls Tryd.prog 5 #[.agg s.cs.toArray, .int .i64 off, .int .u32 (mask.toNat : Int)] w (SaysTrue w) := by
  obtain ⟨w0, hw0⟩ : ∃ w0, w0 = w.alloc (.cells s.cs.toArray 26) := ⟨_, rfl⟩
  have hb0 : Below w.heap.size w w0 := by rw [hw0]; exact (Below.refl _ _).alloc (Nat.le_refl _) _
  have hS0 : ShB w0 w.heap.size s := by rw [hw0]; exact ShB.new w s
  have Hw0 := Lib.hid hw0
  have HB0 := Lib.hid hb0
  have HS0 := Lib.hid hS0
  have HN := Lib.hid hN
  have HOK := Lib.hid hs
  clear hw0 hb0 hS0 hN hs
  cases hk : s.kn
  · have hp := sput_no s hk w0
    clear hk
    go_enter Tryd.func5, Tryd.ntmps5
    go_wp2_with (first
      | (rw [← Hw0.out])
      | (refine at_dst11 (d := 16) ?_; refine wpList_load_sh (o := ⟨some 16, _, _, _, _, _⟩) rfl (.tmp 3) rfl w.heap.size s rfl HS0.out ?_))
    refine hp.mono ?_; clear hp; rintro e w1 ⟨rfl, hb⟩
    have B1 := Lib.hid (HB0.out.trans (hb.mono HB0.out.size))
    have N1 := Lib.hid (HN.out.keep B1.out)
    clear hb
    go_wp2_with fail
    refine (lies_any w1 N1.out).mono ?_; rintro e w2 ⟨rfl, hb2⟩
    go_wp2_with fail
    go_ret
    exact ⟨rfl, B1.out.trans (hb2.mono B1.out.size)⟩
  · have hp := sput_yes s HOK.out hk w0 (HN.out.keep HB0.out)
    have HK := Lib.hid hk
    clear hk
    by_cases hm0 : mask = 0
    · have hd3 : ((mask.toNat : Int) == 0) = true := by rw [hm0]; rfl
      clear hm0
      go_enter Tryd.func5, Tryd.ntmps5
      go_wp2_with (first
        | (rw [← Hw0.out])
        | (refine at_dst11 (d := 16) ?_; refine wpList_load_sh (o := ⟨some 16, _, _, _, _, _⟩) rfl (.tmp 3) rfl w.heap.size s rfl HS0.out ?_))
      refine hp.mono ?_; clear hp; rintro e w1 ⟨A1, rfl, _, _, hb⟩
      have B1 := Lib.hid (HB0.out.trans (hb.mono HB0.out.size))
      have N1 := Lib.hid (HN.out.keep B1.out)
      clear hb
      go_wp2_with fail
      refine (lies_any w1 N1.out).mono ?_; rintro e w2 ⟨rfl, hb2⟩
      go_wp2_with fail
      go_ret
      exact ⟨rfl, B1.out.trans (hb2.mono B1.out.size)⟩
    have hd3 : ((mask.toNat : Int) == 0) = false := by
      rw [beq_eq_false_iff_ne]
      intro e
      exact hm0 (BitVec.eq_of_toNat_eq (by simpa using e))
    have Hm0 := Lib.hid hm0
    clear hm0
    have hlen := HOK.out.sector_len
    obtain ⟨l, hl⟩ : ∃ l, l = s.sector := ⟨_, rfl⟩
    rw [← hl] at hp hlen
    have Hl := Lib.hid hl
    have Hlen := Lib.hid hlen
    clear hl hlen
    go_enter Tryd.func5, Tryd.ntmps5
    go_wp2_with (first
      | (rw [← Hw0.out])
      | (refine at_dst11 (d := 16) ?_; refine wpList_load_sh (o := ⟨some 16, _, _, _, _, _⟩) rfl (.tmp 3) rfl w.heap.size s rfl HS0.out ?_))
    refine hp.mono ?_; clear hp; rintro e w1 ⟨A1, rfl, hs1, hm1, hb⟩
    have B1 := Lib.hid (HB0.out.trans (hb.mono HB0.out.size))
    have N1 := Lib.hid (HN.out.keep B1.out)
    have M1 := Lib.hid (show Mine w1 w.heap.size 5 A1 64 (cells l) from fun h0 => by
      obtain ⟨g, cur, h1, h2, h3, h4, h5⟩ := hm1 h0
      exact ⟨g, cur, h1, Nat.le_trans HB0.out.size h2, h3, h4, h5⟩)
    have htop := hs1.top
    have hcap := hs1.cap
    clear hb hm1 hs1
    go_upto_region 6 with (fail)
    go_cut [9] (fun v wx => AtS w1 v wx)
    case first =>
      go_wp2_with fail
      all_goals
        go_meet
        exact ⟨(max 0 (min off 60)).toNat, by omega, by congr 1; omega, rfl⟩
    case rest =>
      obtain ⟨f, hf, rfl, rfl⟩ := hcut
      go_wp2_with fail
      go_loopw [10] (fun i wr => ∃ (j : Nat), j ≤ 4 ∧ i = .int .i64 (j : Int) ∧ Below w.heap.size w wr ∧ Mine wr w.heap.size 5 A1 64 (cells (chg l f (le 4 mask.toNat) j))) (fun i _ => 4 - (intOf i).toNat)
      case atStart => exact ⟨0, by omega, rfl, B1.out, by rw [chg_zero]; exact M1.out⟩
      case round =>
        obtain ⟨j, hj, rfl, hb, hmj⟩ := hrel
        have Hm := Lib.hid hmj; clear hmj
        by_cases hlt : j < 4
        · have hqL : f + j < l.length := by rw [Hlen.out]; omega
          have hu := chg_at l f (le 4 mask.toNat) j hqL
          have hnx := chg_next l f (le 4 mask.toNat) j hqL (by rw [le_length]; exact hlt)
          obtain ⟨u, hu'⟩ : ∃ u, u = l[f + j] := ⟨_, rfl⟩
          rw [← hu'] at hu hnx
          have hbt := byte_at mask.toNat j hlt
          rw [List.getD_eq_getElem?_getD, List.getElem?_eq_getElem (by rw [le_length]; exact hlt), Option.getD_some] at hbt
          obtain ⟨v, hv'⟩ : ∃ v, v = (le 4 mask.toNat)[j]'(by rw [le_length]; exact hlt) := ⟨_, rfl⟩
          rw [← hv'] at hbt hnx
          obtain ⟨q, hq⟩ : ∃ q, q = f + j := ⟨_, rfl⟩
          rw [← hq] at hu hnx
          have hq1 : (f : Int) + (j : Int) = (q : Int) := by omega
          have hqn : q < 64 := by omega
          have Hq := Lib.hid hq
          have Hnx := Lib.hid hnx
          obtain ⟨g, rfl, hBg, hcell, hfz⟩ := Hm.out.at_ hqn hu
          have hxr := xor_b u v
          have Hx := Lib.hid hxr
          clear hnx hu hu' hv' hqL hxr hq
          go_wp2_with fail
          go_roundw
          case rel => exact ⟨j + 1, by omega, by go_num, hb.setCell hBg _, by rw [← Hnx.out, Hx.out]; exact Hm.out.set hqn _⟩
          case measure => simp [intOf]; omega
        · obtain rfl : j = 4 := by omega
          have hL : (chg l f (le 4 mask.toNat) 4).length = 64 := by rw [chg_length, Hlen.out]
          obtain ⟨L, hLe⟩ : ∃ L, L = chg l f (le 4 mask.toNat) 4 := ⟨_, rfl⟩
          have hE : getE L = 4 := by
            rw [hLe, Hl.out]
            exact burst_err HOK.out.head_len hf Hm0.out
          have Hsw := Lib.hid (show Sl wr 1 A1 64 64 (cells L) by rw [hLe]; exact Hm.out.sl hL hcap htop)
          have hg := sget_any A1 64 64 L wr Hsw.out (HN.out.keep hb)
          rw [getS_err (by rw [hE]; decide), hE] at hg
          have Bq := Lib.hid hb
          clear hb hLe hL hE B1 M1
          go_wp2_with fail
          refine hg.mono ?_; clear hg; rintro e w2 ⟨rfl, hb⟩
          have Sq2 := Lib.hid (Hsw.out.below hb (Nat.le_refl _))
          have B2 := Lib.hid (Bq.out.trans (hb.mono Bq.out.size))
          obtain ⟨w3, hw3⟩ : ∃ w3, w3 = w2.alloc (.cells (Sh.cs Sh.zero).toArray 26) := ⟨_, rfl⟩
          have hb3 : Below w2.heap.size w2 w3 := by rw [hw3]; exact (Below.refl _ _).alloc (Nat.le_refl _) _
          have X3 := Lib.hid (show ShB w3 w2.heap.size Sh.zero by rw [hw3]; exact ShB.new w2 Sh.zero)
          have B3 := Lib.hid (B2.out.trans (hb3.mono B2.out.size))
          have Sq3 := Lib.hid (Sq2.out.below hb3 (Nat.le_refl _))
          have Hw3 := Lib.hid hw3
          have hs3 := Sq3.out.sub1 0 63 64 (by decide) (by decide) (by decide) (by decide)
          rw [List.drop_zero, show A1.map (·.add 0) = A1 by cases A1 <;> simp [Addr.add]] at hs3
          have hg := sget_any A1 63 64 (L.take (63 - 0)) w3 hs3 (HN.out.keep B3.out)
          have hE2 : getE (L.take (63 - 0)) = 2 := getE_len (by rw [List.length_take]; omega)
          rw [getS_err (by rw [hE2]; decide), hE2] at hg
          clear hb hb3 hw3 hs3 hE2
          go_wp2_with (refine at_none11 ?_; refine wpList_store_shard (o := ⟨none, _, _, _, _, _⟩) rfl (.tmp 11) (.tmp 58) rfl w2 Sh.zero rfl rfl ?_; rw [← Hw3.out])
          refine hg.mono ?_; clear hg; rintro e w4 ⟨rfl, hb⟩
          have X4 := Lib.hid (X3.out.later hb)
          have B4 := Lib.hid (B3.out.trans (hb.mono B3.out.size))
          obtain ⟨w5, hw5⟩ : ∃ w5, w5 = w4.alloc (.cells (Sh.cs Sh.zero).toArray 26) := ⟨_, rfl⟩
          have hb5 : Below w4.heap.size w4 w5 := by rw [hw5]; exact (Below.refl _ _).alloc (Nat.le_refl _) _
          have X5 := Lib.hid (X4.out.later hb5)
          have B5 := Lib.hid (B4.out.trans (hb5.mono B4.out.size))
          have Hw5 := Lib.hid hw5
          have hl := lies_any w5 (HN.out.keep B5.out)
          clear hb hb5 hw5
          go_wp2_with (first
            | (refine at_none11 ?_; refine wpList_store_shard (o := ⟨none, _, _, _, _, _⟩) rfl (.tmp 13) (.tmp 64) rfl w4 Sh.zero rfl rfl ?_; rw [← Hw5.out])
            | (refine at_dst11 (d := 73) ?_; refine wpList_load_shg (o := ⟨some 73, _, _, _, _, _⟩) rfl (.tmp 11) rfl w2.heap.size Sh.zero rfl X5.out ?_)
            | (refine at_dst11 (d := 74) ?_; refine wpList_step11 (o := ⟨some 74, _, _, _, _, _⟩) rfl _ w5 (step_build0 rfl) ?_)
            | (refine at_dst11 (d := 75) ?_; refine wpList_step11 (o := ⟨some 75, _, _, _, _, _⟩) rfl _ w5 (step_eqlSh (s := Sh.zero) (t := Sh.zero) rfl rfl rfl) ?_; rw [Sh.same_refl]))
          refine hl.mono ?_; clear hl; rintro e w6 ⟨rfl, hb⟩
          go_wp2_with fail
          go_ret
          exact ⟨rfl, B5.out.trans (hb.mono B5.out.size)⟩
end Go.Proofs.YtdhbgfnfbeapcaaDoor

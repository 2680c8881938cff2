/-
  The statement's function ShardBack returns true, whatever its arguments. Condition: the table reads as the row lists it ('Nt'). (Written by gen_eas.py.)
-/
import Derived.Test.YtdhbgfnfbeapcaaDoorEaq
namespace Go.Proofs.YtdhbgfnfbeapcaaDoor
open Go.RowKit Go.Proofs
set_option linter.unusedVariables false

theorem built_ref (k p g : Int) : Tryd.prog.built 29 [(0, .int .u8 k), (1, .int .i64 p), (2, .int .u64 g)] = some #[.int .u8 k, .int .i64 p, .int .u64 g] := by kernel_rfl
theorem step_buildRef {ρ : Operand → Value} {o : Oper} {a b c : Operand} {w : World} {k : UInt8} {p : Int} {g : Nat} (ho : o.op = .build 29 #[(0, a), (1, b), (2, c)]) (h0 : ρ a = .int .u8 (k.toNat : Int)) (h1 : ρ b = .int .i64 p) (h2 : ρ c = .int .u64 (g : Int)) :
    (execOp ρ o).run Tryd.prog w = .ok (.value (.agg #[.int .u8 (k.toNat : Int), .int .i64 p, .int .u64 (g : Int)])) w := by
  have h := run_build w 29 #[(0, .int .u8 (k.toNat : Int)), (1, .int .i64 p), (2, .int .u64 (g : Int))] _ (built_ref (k.toNat : Int) p (g : Int))
  unfold execOp
  simp [ho, h0, h1, h2, h, Result.andThen]
theorem getE_closed {l : List UInt8} (h : l.length = 60) : getE (closed l) = 3 ∨ getE (closed l) = 0 := by
  have hl : (closed l).length = 64 := by rw [closed_len, h]
  have hs := closed_sum l h
  by_cases hk : (shardOf (closed l)).kn = false ∨ leVal (((closed l).drop 14).take 2) ≠ 0
  · exact .inl (getE_form hl hs hk)
  · refine .inr (getE_fine hl hs ?_ ?_)
    · cases hb : (shardOf (closed l)).kn
      · exact absurd (.inl hb) hk
      · rfl
    · exact Decidable.byContradiction fun h' => hk (.inr h')
theorem Sh.kn_no {s : Sh} (h : s.kn = false) : ¬ (1 : Int) ≤ (s.kind.toNat : Int) ∨ ((1 : Int) ≤ (s.kind.toNat : Int) ∧ ¬ (s.kind.toNat : Int) ≤ 4) := by
  unfold Sh.kn at h
  rw [Bool.and_eq_false_iff, decide_eq_false_iff_not, decide_eq_false_iff_not] at h
  omega
set_option maxRecDepth 20000
set_option maxHeartbeats 3200000
section
variable (s : Sh) (hs : s.Ok) (A : Option Addr) (n c : Nat) (l : List UInt8) (w : World) (h : Sl w 1 A n c (cells l)) (hN : Nt w)
include hs h hN
theorem back_long (hn : 60 < n) :
    Calls Tryd.prog 4 #[.agg s.cs.toArray, .slice A n c] w (SaysTrue w) := by
  obtain ⟨w0, hw0⟩ : ∃ w0, w0 = w.alloc (.cells s.cs.toArray 26) := ⟨_, rfl⟩
  have hb0 : Below w.heap.size w w0 := by rw [hw0]; exact (Below.refl _ _).alloc (Nat.le_refl _) _
  have hS0 : ShB w0 w.heap.size s := by rw [hw0]; exact ShB.new w s
  have hlen := h.len
  rw [cells_length, Nat.mul_one] at hlen
  have H := Lib.hid h
  have Hw0 := Lib.hid hw0
  have HB0 := Lib.hid hb0
  have HS0 := Lib.hid hS0
  have HN := Lib.hid hN
  have HOK := Lib.hid hs
  clear hw0 hb0 hS0 hN hs h
  clear hlen
  have hn2 : (n : Int) > 60 := by omega
  go_enter Tryd.func4, Tryd.ntmps4
  go_wp2_with (first
    | (rw [← Hw0.out]))
  refine (lies_any w0 (HN.out.keep HB0.out)).mono ?_; rintro e w1 ⟨rfl, hb⟩
  go_wp2_with fail
  go_ret
  exact ⟨rfl, HB0.out.trans (hb.mono HB0.out.size)⟩
theorem back_yes (hn : ¬ 60 < n) (hk : s.kn = true) :
    Calls Tryd.prog 4 #[.agg s.cs.toArray, .slice A n c] w (SaysTrue w) := by
  obtain ⟨w0, hw0⟩ : ∃ w0, w0 = w.alloc (.cells s.cs.toArray 26) := ⟨_, rfl⟩
  have hb0 : Below w.heap.size w w0 := by rw [hw0]; exact (Below.refl _ _).alloc (Nat.le_refl _) _
  have hS0 : ShB w0 w.heap.size s := by rw [hw0]; exact ShB.new w s
  have hlen := h.len
  rw [cells_length, Nat.mul_one] at hlen
  have H := Lib.hid h
  have Hw0 := Lib.hid hw0
  have HB0 := Lib.hid hb0
  have HS0 := Lib.hid hS0
  have HN := Lib.hid hN
  have HOK := Lib.hid hs
  clear hw0 hb0 hS0 hN hs h
  have hni : (n : Int) ≤ 60 := by omega
  have hn2 : ¬ (n : Int) > 60 := by omega
  have hhl : ((l ++ List.replicate 60 0).take 60).length = 60 := by rw [List.length_take, List.length_append, List.length_replicate]; omega
  obtain ⟨z60, hz60⟩ : ∃ z : List UInt8, z = List.replicate 60 0 := ⟨_, rfl⟩
  have Hz60 := Lib.hid hz60
  clear hz60
  obtain ⟨h60, hh⟩ : ∃ h60, h60 = (l ++ List.replicate 60 0).take 60 := ⟨_, rfl⟩
  rw [← hh] at hhl
  obtain ⟨L, hL⟩ : ∃ L, L = closed h60 := ⟨_, rfl⟩
  have hLl : L.length = 64 := by rw [hL, closed_len, hhl]
  have hE2 := getE_closed hhl
  rw [← hL] at hE2
  obtain ⟨G, hGe⟩ : ∃ G, G = getS L := ⟨_, rfl⟩
  have Hh := Lib.hid hh
  have HL := Lib.hid hL
  have HLl := Lib.hid hLl
  have HE := Lib.hid hGe.symm
  have Hlen := Lib.hid hlen
  clear hh hL hLl hhl hlen
  have HK := Lib.hid hk
  clear hk
  rcases hE2 with hE | hE
  · have HG := Lib.hid hE
    have HGz := Lib.hid (show G = Sh.zero from hGe.trans (getS_err (by rw [hE]; decide)))
    clear hE hGe
    have hp := sput_yes s HOK.out HK.out w0 (HN.out.keep HB0.out)
    go_enter Tryd.func4, Tryd.ntmps4
    go_wp2_with (first
      | (rw [← Hw0.out])
      | (refine at_dst11 (d := 19) ?_; refine wpList_load_sh (o := ⟨some 19, _, _, _, _, _⟩) rfl (.tmp 2) rfl w.heap.size s rfl HS0.out ?_))
    refine hp.mono ?_; clear hp; rintro e w1 ⟨A1, rfl, hs1, _, hb⟩
    have B1 := Lib.hid (HB0.out.trans (hb.mono HB0.out.size))
    have S1 := Lib.hid (HS0.out.later hb)
    have hg := sget_any A1 64 64 s.sector w1 hs1 (HN.out.keep B1.out)
    have hgs := HOK.out.get_sector HK.out
    rw [hgs.1, hgs.2] at hg
    clear hb hs1 hgs
    go_wp2_with fail
    refine hg.mono ?_; clear hg; rintro e w2 ⟨rfl, hb⟩
    have B2 := Lib.hid (B1.out.trans (hb.mono B1.out.size))
    have S2 := Lib.hid (S1.out.later hb)
    obtain ⟨w3, hw3⟩ : ∃ w3, w3 = w2.alloc (.cells (Sh.cs s).toArray 26) := ⟨_, rfl⟩
    have hb3 : Below w2.heap.size w2 w3 := by rw [hw3]; exact (Below.refl _ _).alloc (Nat.le_refl _) _
    have X3 := Lib.hid (show ShB w3 w2.heap.size s by rw [hw3]; exact ShB.new w2 s)
    have B3 := Lib.hid (B2.out.trans (hb3.mono B2.out.size))
    have S3 := Lib.hid (S2.out.later hb3)
    have Hw3 := Lib.hid hw3
    have ck := S3.out.k; have ci := S3.out.i; have cp := S3.out.p; have cg := S3.out.g
    have lk := s.kind.toNat_lt
    have li := s.idx.toNat_lt
    have lp := HOK.out.place
    have hi := is_any s HOK.out s.kind (s.place : Int) s.gen (s.idx.toNat : Int) w3
    rw [show isB s s.kind (s.place : Int) s.gen (s.idx.toNat : Int) = true by simp [isB]] at hi
    clear hb hb3 hw3
    go_wp2_with (first
      | (refine at_none11 ?_; refine wpList_store_shard (o := ⟨none, _, _, _, _, _⟩) rfl (.tmp 7) (.tmp 28) rfl w2 s rfl rfl ?_; rw [← Hw3.out])
      | (refine at_dst11 (d := 33) ?_; refine wpList_load_shg (o := ⟨some 33, _, _, _, _, _⟩) rfl (.tmp 7) rfl w2.heap.size s rfl X3.out ?_)
      | (refine at_dst11 (d := 34) ?_; refine wpList_load_shg (o := ⟨some 34, _, _, _, _, _⟩) rfl (.tmp 2) rfl w.heap.size s rfl S3.out ?_)
      | (refine at_dst11 (d := 38) ?_; refine wpList_load_shg (o := ⟨some 38, _, _, _, _, _⟩) rfl (.tmp 7) rfl w2.heap.size s rfl X3.out ?_)
      | (refine at_dst11 (d := 35) ?_; refine wpList_step11 (o := ⟨some 35, _, _, _, _, _⟩) rfl _ w3 (step_neqSh (s := s) (t := s) rfl rfl rfl) ?_; rw [Sh.same_refl])
      | (refine at_dst11 (d := 46) ?_; refine wpList_step11 (o := ⟨some 46, _, _, _, _, _⟩) rfl _ w3 (step_buildRef (k := s.kind) (p := (s.place : Int)) (g := s.gen) rfl rfl rfl rfl) ?_))
    refine hi.mono ?_; clear hi; rintro e w4 ⟨rfl, hb⟩
    have Bu := Lib.hid (B3.out.trans (hb.mono B3.out.size))
    have Hu := Lib.hid (H.out.below Bu.out (Nat.le_refl _))
    clear hb ck ci cp cg lk li lp
    go_wp2_with (first
      | (at_builtin; refine wpList_append_b (B := w4.heap.size) rfl (.tmp 61) (.tmp 62) rfl rfl (Own.full (Sl.empty _ _ _ 0 (by decide))) ?ya A n c l rfl ?yb ?yc ?yd))
    try (case ya => simp)
    case yb => exact Hu.out.alloc _
    case yc => omega
    intro A5 c5 w5 ho5 hb5
    have hb5' : Below w4.heap.size w4 w5 := ((Below.refl _ _).alloc (Nat.le_refl _) _).trans hb5
    have O5 := Lib.hid ho5
    have B5 := Lib.hid hb5'
    clear ho5 hb5 hb5'
    go_wp2_with (first
      | (at_builtin; refine wpList_append_nb (B := w4.heap.size) rfl (.tmp 63) _ rfl rfl O5.out ?ye 60 z60 Hz60.out rfl (by decide) (by decide) ?yf ?yg))
    case ye => exact B5.out.size
    case yf => omega
    intro A6 c6 w6 ho6 hb6
    have B6 := Lib.hid (Bu.out.trans ((B5.out.trans hb6).mono Bu.out.size))
    have hc6 := ho6.sl.cap
    have hc6i : (60 : Int) ≤ (c6 : Int) := by omega
    have hs6 := ho6.sl
    rw [← cells_append] at hs6
    have hs6' := hs6.sub1 0 60 c6 (by decide) (by omega) (by omega) hs6.top
    rw [List.drop_zero, show A6.map (·.add 0) = A6 by cases A6 <;> simp [Addr.add], show (l ++ z60).take (60 - 0) = h60 by rw [Hz60.out]; exact Hh.out.symm] at hs6'
    have hcl := rclosed_any A6 60 c6 h60 w6 hs6' (by decide)
    rw [← HL.out] at hcl
    clear ho6 hb6 hs6 hs6' hc6
    go_wp2_with fail
    refine hcl.mono ?_; clear hcl; rintro e w7 ⟨A7, n7, c7, rfl, ho7, hb7⟩
    obtain rfl : n7 = 64 := by have := ho7.sl.len; rw [cells_length, HLl.out] at this; omega
    have S7 := Lib.hid ho7.sl
    have B7 := Lib.hid (B6.out.trans (hb7.mono B6.out.size))
    have hg := sget_any A7 64 c7 L w7 S7.out (HN.out.keep B7.out)
    clear ho7 hb7
    rw [HE.out, HG.out] at hg
    go_wp2_with fail
    refine hg.mono ?_; clear hg; rintro e w8 ⟨rfl, hb8⟩
    have B8 := Lib.hid (B7.out.trans (hb8.mono B7.out.size))
    have S8 := Lib.hid (S7.out.below hb8 (Nat.le_refl _))
    obtain ⟨w9, hw9⟩ : ∃ w9, w9 = w8.alloc (.cells (Sh.cs G).toArray 26) := ⟨_, rfl⟩
    have hb9 : Below w8.heap.size w8 w9 := by rw [hw9]; exact (Below.refl _ _).alloc (Nat.le_refl _) _
    have X9 := Lib.hid (show ShB w9 w8.heap.size G by rw [hw9]; exact ShB.new w8 G)
    have B9 := Lib.hid (B8.out.trans (hb9.mono B8.out.size))
    have S9 := Lib.hid (S8.out.below hb9 (Nat.le_refl _))
    have Hw9 := Lib.hid hw9
    clear hb8 hb9 hw9
    have hl := lies_any w9 (HN.out.keep B9.out)
    go_wp2_with (first
      | (refine at_none11 ?_; refine wpList_store_shard (o := ⟨none, _, _, _, _, _⟩) rfl (.tmp 10) (.tmp 70) rfl w8 G rfl rfl ?_; rw [← Hw9.out])
      | (refine at_dst11 (d := 74) ?_; refine wpList_load_sh (o := ⟨some 74, _, _, _, _, _⟩) rfl (.tmp 10) rfl w8.heap.size G rfl X9.out ?_)
      | (refine at_dst11 (d := 75) ?_; refine wpList_step11 (o := ⟨some 75, _, _, _, _, _⟩) rfl _ w9 (step_build0 rfl) ?_)
      | (refine at_dst11 (d := 76) ?_; refine wpList_step11 (o := ⟨some 76, _, _, _, _, _⟩) rfl _ w9 (step_eqlSh (s := G) (t := Sh.zero) rfl rfl rfl) ?_; rw [HGz.out, Sh.same_refl]))
    refine hl.mono ?_; clear hl; rintro e w10 ⟨rfl, hb⟩
    go_wp2_with fail
    go_ret
    exact ⟨rfl, B9.out.trans (hb.mono B9.out.size)⟩
  · have HG := Lib.hid hE
    have hgs := sector_shardOf hE
    have hgf := getS_fine hE
    have HGo := Lib.hid (show G.Ok by rw [hGe]; exact getS_ok L)
    have HGk := Lib.hid (show G.kn = true by rw [hGe, hgf]; exact hgs.2)
    have HGs := Lib.hid (show G.sector = L by rw [hGe, hgf]; exact hgs.1)
    clear hE hGe hgs hgf
    have hp := sput_yes s HOK.out HK.out w0 (HN.out.keep HB0.out)
    go_enter Tryd.func4, Tryd.ntmps4
    go_wp2_with (first
      | (rw [← Hw0.out])
      | (refine at_dst11 (d := 19) ?_; refine wpList_load_sh (o := ⟨some 19, _, _, _, _, _⟩) rfl (.tmp 2) rfl w.heap.size s rfl HS0.out ?_))
    refine hp.mono ?_; clear hp; rintro e w1 ⟨A1, rfl, hs1, _, hb⟩
    have B1 := Lib.hid (HB0.out.trans (hb.mono HB0.out.size))
    have S1 := Lib.hid (HS0.out.later hb)
    have hg := sget_any A1 64 64 s.sector w1 hs1 (HN.out.keep B1.out)
    have hgs := HOK.out.get_sector HK.out
    rw [hgs.1, hgs.2] at hg
    clear hb hs1 hgs
    go_wp2_with fail
    refine hg.mono ?_; clear hg; rintro e w2 ⟨rfl, hb⟩
    have B2 := Lib.hid (B1.out.trans (hb.mono B1.out.size))
    have S2 := Lib.hid (S1.out.later hb)
    obtain ⟨w3, hw3⟩ : ∃ w3, w3 = w2.alloc (.cells (Sh.cs s).toArray 26) := ⟨_, rfl⟩
    have hb3 : Below w2.heap.size w2 w3 := by rw [hw3]; exact (Below.refl _ _).alloc (Nat.le_refl _) _
    have X3 := Lib.hid (show ShB w3 w2.heap.size s by rw [hw3]; exact ShB.new w2 s)
    have B3 := Lib.hid (B2.out.trans (hb3.mono B2.out.size))
    have S3 := Lib.hid (S2.out.later hb3)
    have Hw3 := Lib.hid hw3
    have ck := S3.out.k; have ci := S3.out.i; have cp := S3.out.p; have cg := S3.out.g
    have lk := s.kind.toNat_lt
    have li := s.idx.toNat_lt
    have lp := HOK.out.place
    have hi := is_any s HOK.out s.kind (s.place : Int) s.gen (s.idx.toNat : Int) w3
    rw [show isB s s.kind (s.place : Int) s.gen (s.idx.toNat : Int) = true by simp [isB]] at hi
    clear hb hb3 hw3
    go_wp2_with (first
      | (refine at_none11 ?_; refine wpList_store_shard (o := ⟨none, _, _, _, _, _⟩) rfl (.tmp 7) (.tmp 28) rfl w2 s rfl rfl ?_; rw [← Hw3.out])
      | (refine at_dst11 (d := 33) ?_; refine wpList_load_shg (o := ⟨some 33, _, _, _, _, _⟩) rfl (.tmp 7) rfl w2.heap.size s rfl X3.out ?_)
      | (refine at_dst11 (d := 34) ?_; refine wpList_load_shg (o := ⟨some 34, _, _, _, _, _⟩) rfl (.tmp 2) rfl w.heap.size s rfl S3.out ?_)
      | (refine at_dst11 (d := 38) ?_; refine wpList_load_shg (o := ⟨some 38, _, _, _, _, _⟩) rfl (.tmp 7) rfl w2.heap.size s rfl X3.out ?_)
      | (refine at_dst11 (d := 35) ?_; refine wpList_step11 (o := ⟨some 35, _, _, _, _, _⟩) rfl _ w3 (step_neqSh (s := s) (t := s) rfl rfl rfl) ?_; rw [Sh.same_refl])
      | (refine at_dst11 (d := 46) ?_; refine wpList_step11 (o := ⟨some 46, _, _, _, _, _⟩) rfl _ w3 (step_buildRef (k := s.kind) (p := (s.place : Int)) (g := s.gen) rfl rfl rfl rfl) ?_))
    refine hi.mono ?_; clear hi; rintro e w4 ⟨rfl, hb⟩
    have Bu := Lib.hid (B3.out.trans (hb.mono B3.out.size))
    have Hu := Lib.hid (H.out.below Bu.out (Nat.le_refl _))
    clear hb ck ci cp cg lk li lp
    go_wp2_with (first
      | (at_builtin; refine wpList_append_b (B := w4.heap.size) rfl (.tmp 61) (.tmp 62) rfl rfl (Own.full (Sl.empty _ _ _ 0 (by decide))) ?za A n c l rfl ?zb ?zc ?zd))
    try (case za => simp)
    case zb => exact Hu.out.alloc _
    case zc => omega
    intro A5 c5 w5 ho5 hb5
    have hb5' : Below w4.heap.size w4 w5 := ((Below.refl _ _).alloc (Nat.le_refl _) _).trans hb5
    have O5 := Lib.hid ho5
    have B5 := Lib.hid hb5'
    clear ho5 hb5 hb5'
    go_wp2_with (first
      | (at_builtin; refine wpList_append_nb (B := w4.heap.size) rfl (.tmp 63) _ rfl rfl O5.out ?ze 60 z60 Hz60.out rfl (by decide) (by decide) ?zf ?zg))
    case ze => exact B5.out.size
    case zf => omega
    intro A6 c6 w6 ho6 hb6
    have B6 := Lib.hid (Bu.out.trans ((B5.out.trans hb6).mono Bu.out.size))
    have hc6 := ho6.sl.cap
    have hc6i : (60 : Int) ≤ (c6 : Int) := by omega
    have hs6 := ho6.sl
    rw [← cells_append] at hs6
    have hs6' := hs6.sub1 0 60 c6 (by decide) (by omega) (by omega) hs6.top
    rw [List.drop_zero, show A6.map (·.add 0) = A6 by cases A6 <;> simp [Addr.add], show (l ++ z60).take (60 - 0) = h60 by rw [Hz60.out]; exact Hh.out.symm] at hs6'
    have hcl := rclosed_any A6 60 c6 h60 w6 hs6' (by decide)
    rw [← HL.out] at hcl
    clear ho6 hb6 hs6 hs6' hc6
    go_wp2_with fail
    refine hcl.mono ?_; clear hcl; rintro e w7 ⟨A7, n7, c7, rfl, ho7, hb7⟩
    obtain rfl : n7 = 64 := by have := ho7.sl.len; rw [cells_length, HLl.out] at this; omega
    have S7 := Lib.hid ho7.sl
    have B7 := Lib.hid (B6.out.trans (hb7.mono B6.out.size))
    have hg := sget_any A7 64 c7 L w7 S7.out (HN.out.keep B7.out)
    clear ho7 hb7
    rw [HE.out, HG.out] at hg
    go_wp2_with fail
    refine hg.mono ?_; clear hg; rintro e w8 ⟨rfl, hb8⟩
    have B8 := Lib.hid (B7.out.trans (hb8.mono B7.out.size))
    have S8 := Lib.hid (S7.out.below hb8 (Nat.le_refl _))
    obtain ⟨w9, hw9⟩ : ∃ w9, w9 = w8.alloc (.cells (Sh.cs G).toArray 26) := ⟨_, rfl⟩
    have hb9 : Below w8.heap.size w8 w9 := by rw [hw9]; exact (Below.refl _ _).alloc (Nat.le_refl _) _
    have X9 := Lib.hid (show ShB w9 w8.heap.size G by rw [hw9]; exact ShB.new w8 G)
    have B9 := Lib.hid (B8.out.trans (hb9.mono B8.out.size))
    have S9 := Lib.hid (S8.out.below hb9 (Nat.le_refl _))
    have Hw9 := Lib.hid hw9
    clear hb8 hb9 hw9
    have hp := sput_yes G HGo.out HGk.out w9 (HN.out.keep B9.out)
    rw [HGs.out] at hp
    go_wp2_with (first
      | (refine at_none11 ?_; refine wpList_store_shard (o := ⟨none, _, _, _, _, _⟩) rfl (.tmp 10) (.tmp 70) rfl w8 G rfl rfl ?_; rw [← Hw9.out])
      | (refine at_dst11 (d := 85) ?_; refine wpList_load_sh (o := ⟨some 85, _, _, _, _, _⟩) rfl (.tmp 10) rfl w8.heap.size G rfl X9.out ?_))
    refine hp.mono ?_; clear hp; rintro e w10 ⟨A10, rfl, hs10, _, hb⟩
    have B10 := Lib.hid (B9.out.trans (hb.mono B9.out.size))
    have k10 := str_of hs10
    have k11 := str_of (S9.out.below hb (Nat.le_refl _))
    have hl := lies_any w10 (HN.out.keep B10.out)
    clear hs10 hb
    go_wp2_with fail
    refine hl.mono ?_; clear hl; rintro e w11 ⟨rfl, hb⟩
    go_wp2_with fail
    go_ret
    exact ⟨rfl, B10.out.trans (hb.mono B10.out.size)⟩
theorem back_no (hn : ¬ 60 < n) (hk : s.kn = false) :
    Calls Tryd.prog 4 #[.agg s.cs.toArray, .slice A n c] w (SaysTrue w) := by
  obtain ⟨w0, hw0⟩ : ∃ w0, w0 = w.alloc (.cells s.cs.toArray 26) := ⟨_, rfl⟩
  have hb0 : Below w.heap.size w w0 := by rw [hw0]; exact (Below.refl _ _).alloc (Nat.le_refl _) _
  have hS0 : ShB w0 w.heap.size s := by rw [hw0]; exact ShB.new w s
  have hlen := h.len
  rw [cells_length, Nat.mul_one] at hlen
  have H := Lib.hid h
  have Hw0 := Lib.hid hw0
  have HB0 := Lib.hid hb0
  have HS0 := Lib.hid hS0
  have HN := Lib.hid hN
  have HOK := Lib.hid hs
  clear hw0 hb0 hS0 hN hs h
  have hni : (n : Int) ≤ 60 := by omega
  have hn2 : ¬ (n : Int) > 60 := by omega
  have hhl : ((l ++ List.replicate 60 0).take 60).length = 60 := by rw [List.length_take, List.length_append, List.length_replicate]; omega
  obtain ⟨z60, hz60⟩ : ∃ z : List UInt8, z = List.replicate 60 0 := ⟨_, rfl⟩
  have Hz60 := Lib.hid hz60
  clear hz60
  obtain ⟨h60, hh⟩ : ∃ h60, h60 = (l ++ List.replicate 60 0).take 60 := ⟨_, rfl⟩
  rw [← hh] at hhl
  obtain ⟨L, hL⟩ : ∃ L, L = closed h60 := ⟨_, rfl⟩
  have hLl : L.length = 64 := by rw [hL, closed_len, hhl]
  have hE2 := getE_closed hhl
  rw [← hL] at hE2
  obtain ⟨G, hGe⟩ : ∃ G, G = getS L := ⟨_, rfl⟩
  have Hh := Lib.hid hh
  have HL := Lib.hid hL
  have HLl := Lib.hid hLl
  have HE := Lib.hid hGe.symm
  have Hlen := Lib.hid hlen
  clear hh hL hLl hhl hlen
  have hkn := Sh.kn_no hk
  have HK := Lib.hid hk
  have lk := s.kind.toNat_lt
  clear hk
  rcases hE2 with hE | hE
  · have HG := Lib.hid hE
    have HGz := Lib.hid (show G = Sh.zero from hGe.trans (getS_err (by rw [hE]; decide)))
    clear hE hGe
    rcases hkn with hq | ⟨hq, hq2⟩
    · have hp := sput_no s HK.out w0
      go_enter Tryd.func4, Tryd.ntmps4
      go_wp2_with (first
        | (rw [← Hw0.out])
        | (refine at_dst11 (d := 19) ?_; refine wpList_load_sh (o := ⟨some 19, _, _, _, _, _⟩) rfl (.tmp 2) rfl w.heap.size s rfl HS0.out ?_))
      refine hp.mono ?_; clear hp; rintro e w1 ⟨rfl, hb⟩
      have S1 := Lib.hid (HS0.out.later hb)
      have Bu := Lib.hid (HB0.out.trans (hb.mono HB0.out.size))
      have Hu := Lib.hid (H.out.below Bu.out (Nat.le_refl _))
      have ck := S1.out.k
      clear hb
      go_wp2_with (first
        | (at_builtin; refine wpList_append_b (B := w1.heap.size) rfl (.tmp 61) (.tmp 62) rfl rfl (Own.full (Sl.empty _ _ _ 0 (by decide))) ?ypa A n c l rfl ?ypb ?ypc ?ypd))
      try (case ypa => simp)
      case ypb => exact Hu.out.alloc _
      case ypc => omega
      intro A5 c5 w5 ho5 hb5
      have hb5' : Below w1.heap.size w1 w5 := ((Below.refl _ _).alloc (Nat.le_refl _) _).trans hb5
      have O5 := Lib.hid ho5
      have B5 := Lib.hid hb5'
      clear ho5 hb5 hb5'
      go_wp2_with (first
        | (at_builtin; refine wpList_append_nb (B := w1.heap.size) rfl (.tmp 63) _ rfl rfl O5.out ?ype 60 z60 Hz60.out rfl (by decide) (by decide) ?ypf ?ypg))
      case ype => exact B5.out.size
      case ypf => omega
      intro A6 c6 w6 ho6 hb6
      have B6 := Lib.hid (Bu.out.trans ((B5.out.trans hb6).mono Bu.out.size))
      have hc6 := ho6.sl.cap
      have hc6i : (60 : Int) ≤ (c6 : Int) := by omega
      have hs6 := ho6.sl
      rw [← cells_append] at hs6
      have hs6' := hs6.sub1 0 60 c6 (by decide) (by omega) (by omega) hs6.top
      rw [List.drop_zero, show A6.map (·.add 0) = A6 by cases A6 <;> simp [Addr.add], show (l ++ z60).take (60 - 0) = h60 by rw [Hz60.out]; exact Hh.out.symm] at hs6'
      have hcl := rclosed_any A6 60 c6 h60 w6 hs6' (by decide)
      rw [← HL.out] at hcl
      clear ho6 hb6 hs6 hs6' hc6
      go_wp2_with fail
      refine hcl.mono ?_; clear hcl; rintro e w7 ⟨A7, n7, c7, rfl, ho7, hb7⟩
      obtain rfl : n7 = 64 := by have := ho7.sl.len; rw [cells_length, HLl.out] at this; omega
      have S7 := Lib.hid ho7.sl
      have B7 := Lib.hid (B6.out.trans (hb7.mono B6.out.size))
      have hg := sget_any A7 64 c7 L w7 S7.out (HN.out.keep B7.out)
      clear ho7 hb7
      rw [HE.out, HG.out] at hg
      go_wp2_with fail
      refine hg.mono ?_; clear hg; rintro e w8 ⟨rfl, hb8⟩
      have B8 := Lib.hid (B7.out.trans (hb8.mono B7.out.size))
      have S8 := Lib.hid (S7.out.below hb8 (Nat.le_refl _))
      obtain ⟨w9, hw9⟩ : ∃ w9, w9 = w8.alloc (.cells (Sh.cs G).toArray 26) := ⟨_, rfl⟩
      have hb9 : Below w8.heap.size w8 w9 := by rw [hw9]; exact (Below.refl _ _).alloc (Nat.le_refl _) _
      have X9 := Lib.hid (show ShB w9 w8.heap.size G by rw [hw9]; exact ShB.new w8 G)
      have B9 := Lib.hid (B8.out.trans (hb9.mono B8.out.size))
      have S9 := Lib.hid (S8.out.below hb9 (Nat.le_refl _))
      have Hw9 := Lib.hid hw9
      clear hb8 hb9 hw9
      have hl := lies_any w9 (HN.out.keep B9.out)
      go_wp2_with (first
        | (refine at_none11 ?_; refine wpList_store_shard (o := ⟨none, _, _, _, _, _⟩) rfl (.tmp 10) (.tmp 70) rfl w8 G rfl rfl ?_; rw [← Hw9.out])
        | (refine at_dst11 (d := 74) ?_; refine wpList_load_sh (o := ⟨some 74, _, _, _, _, _⟩) rfl (.tmp 10) rfl w8.heap.size G rfl X9.out ?_)
        | (refine at_dst11 (d := 75) ?_; refine wpList_step11 (o := ⟨some 75, _, _, _, _, _⟩) rfl _ w9 (step_build0 rfl) ?_)
        | (refine at_dst11 (d := 76) ?_; refine wpList_step11 (o := ⟨some 76, _, _, _, _, _⟩) rfl _ w9 (step_eqlSh (s := G) (t := Sh.zero) rfl rfl rfl) ?_; rw [HGz.out, Sh.same_refl]))
      refine hl.mono ?_; clear hl; rintro e w10 ⟨rfl, hb⟩
      go_wp2_with fail
      go_ret
      exact ⟨rfl, B9.out.trans (hb.mono B9.out.size)⟩
    · have hp := sput_no s HK.out w0
      go_enter Tryd.func4, Tryd.ntmps4
      go_wp2_with (first
        | (rw [← Hw0.out])
        | (refine at_dst11 (d := 19) ?_; refine wpList_load_sh (o := ⟨some 19, _, _, _, _, _⟩) rfl (.tmp 2) rfl w.heap.size s rfl HS0.out ?_))
      refine hp.mono ?_; clear hp; rintro e w1 ⟨rfl, hb⟩
      have S1 := Lib.hid (HS0.out.later hb)
      have Bu := Lib.hid (HB0.out.trans (hb.mono HB0.out.size))
      have Hu := Lib.hid (H.out.below Bu.out (Nat.le_refl _))
      have ck := S1.out.k
      clear hb
      go_wp2_with (first
        | (at_builtin; refine wpList_append_b (B := w1.heap.size) rfl (.tmp 61) (.tmp 62) rfl rfl (Own.full (Sl.empty _ _ _ 0 (by decide))) ?yqa A n c l rfl ?yqb ?yqc ?yqd))
      try (case yqa => simp)
      case yqb => exact Hu.out.alloc _
      case yqc => omega
      intro A5 c5 w5 ho5 hb5
      have hb5' : Below w1.heap.size w1 w5 := ((Below.refl _ _).alloc (Nat.le_refl _) _).trans hb5
      have O5 := Lib.hid ho5
      have B5 := Lib.hid hb5'
      clear ho5 hb5 hb5'
      go_wp2_with (first
        | (at_builtin; refine wpList_append_nb (B := w1.heap.size) rfl (.tmp 63) _ rfl rfl O5.out ?yqe 60 z60 Hz60.out rfl (by decide) (by decide) ?yqf ?yqg))
      case yqe => exact B5.out.size
      case yqf => omega
      intro A6 c6 w6 ho6 hb6
      have B6 := Lib.hid (Bu.out.trans ((B5.out.trans hb6).mono Bu.out.size))
      have hc6 := ho6.sl.cap
      have hc6i : (60 : Int) ≤ (c6 : Int) := by omega
      have hs6 := ho6.sl
      rw [← cells_append] at hs6
      have hs6' := hs6.sub1 0 60 c6 (by decide) (by omega) (by omega) hs6.top
      rw [List.drop_zero, show A6.map (·.add 0) = A6 by cases A6 <;> simp [Addr.add], show (l ++ z60).take (60 - 0) = h60 by rw [Hz60.out]; exact Hh.out.symm] at hs6'
      have hcl := rclosed_any A6 60 c6 h60 w6 hs6' (by decide)
      rw [← HL.out] at hcl
      clear ho6 hb6 hs6 hs6' hc6
      go_wp2_with fail
      refine hcl.mono ?_; clear hcl; rintro e w7 ⟨A7, n7, c7, rfl, ho7, hb7⟩
      obtain rfl : n7 = 64 := by have := ho7.sl.len; rw [cells_length, HLl.out] at this; omega
      have S7 := Lib.hid ho7.sl
      have B7 := Lib.hid (B6.out.trans (hb7.mono B6.out.size))
      have hg := sget_any A7 64 c7 L w7 S7.out (HN.out.keep B7.out)
      clear ho7 hb7
      rw [HE.out, HG.out] at hg
      go_wp2_with fail
      refine hg.mono ?_; clear hg; rintro e w8 ⟨rfl, hb8⟩
      have B8 := Lib.hid (B7.out.trans (hb8.mono B7.out.size))
      have S8 := Lib.hid (S7.out.below hb8 (Nat.le_refl _))
      obtain ⟨w9, hw9⟩ : ∃ w9, w9 = w8.alloc (.cells (Sh.cs G).toArray 26) := ⟨_, rfl⟩
      have hb9 : Below w8.heap.size w8 w9 := by rw [hw9]; exact (Below.refl _ _).alloc (Nat.le_refl _) _
      have X9 := Lib.hid (show ShB w9 w8.heap.size G by rw [hw9]; exact ShB.new w8 G)
      have B9 := Lib.hid (B8.out.trans (hb9.mono B8.out.size))
      have S9 := Lib.hid (S8.out.below hb9 (Nat.le_refl _))
      have Hw9 := Lib.hid hw9
      clear hb8 hb9 hw9
      have hl := lies_any w9 (HN.out.keep B9.out)
      go_wp2_with (first
        | (refine at_none11 ?_; refine wpList_store_shard (o := ⟨none, _, _, _, _, _⟩) rfl (.tmp 10) (.tmp 70) rfl w8 G rfl rfl ?_; rw [← Hw9.out])
        | (refine at_dst11 (d := 74) ?_; refine wpList_load_sh (o := ⟨some 74, _, _, _, _, _⟩) rfl (.tmp 10) rfl w8.heap.size G rfl X9.out ?_)
        | (refine at_dst11 (d := 75) ?_; refine wpList_step11 (o := ⟨some 75, _, _, _, _, _⟩) rfl _ w9 (step_build0 rfl) ?_)
        | (refine at_dst11 (d := 76) ?_; refine wpList_step11 (o := ⟨some 76, _, _, _, _, _⟩) rfl _ w9 (step_eqlSh (s := G) (t := Sh.zero) rfl rfl rfl) ?_; rw [HGz.out, Sh.same_refl]))
      refine hl.mono ?_; clear hl; rintro e w10 ⟨rfl, hb⟩
      go_wp2_with fail
      go_ret
      exact ⟨rfl, B9.out.trans (hb.mono B9.out.size)⟩
  · have HG := Lib.hid hE
    have hgs := sector_shardOf hE
    have hgf := getS_fine hE
    have HGo := Lib.hid (show G.Ok by rw [hGe]; exact getS_ok L)
    have HGk := Lib.hid (show G.kn = true by rw [hGe, hgf]; exact hgs.2)
    have HGs := Lib.hid (show G.sector = L by rw [hGe, hgf]; exact hgs.1)
    clear hE hGe hgs hgf
    rcases hkn with hq | ⟨hq, hq2⟩
    · have hp := sput_no s HK.out w0
      go_enter Tryd.func4, Tryd.ntmps4
      go_wp2_with (first
        | (rw [← Hw0.out])
        | (refine at_dst11 (d := 19) ?_; refine wpList_load_sh (o := ⟨some 19, _, _, _, _, _⟩) rfl (.tmp 2) rfl w.heap.size s rfl HS0.out ?_))
      refine hp.mono ?_; clear hp; rintro e w1 ⟨rfl, hb⟩
      have S1 := Lib.hid (HS0.out.later hb)
      have Bu := Lib.hid (HB0.out.trans (hb.mono HB0.out.size))
      have Hu := Lib.hid (H.out.below Bu.out (Nat.le_refl _))
      have ck := S1.out.k
      clear hb
      go_wp2_with (first
        | (at_builtin; refine wpList_append_b (B := w1.heap.size) rfl (.tmp 61) (.tmp 62) rfl rfl (Own.full (Sl.empty _ _ _ 0 (by decide))) ?zpa A n c l rfl ?zpb ?zpc ?zpd))
      try (case zpa => simp)
      case zpb => exact Hu.out.alloc _
      case zpc => omega
      intro A5 c5 w5 ho5 hb5
      have hb5' : Below w1.heap.size w1 w5 := ((Below.refl _ _).alloc (Nat.le_refl _) _).trans hb5
      have O5 := Lib.hid ho5
      have B5 := Lib.hid hb5'
      clear ho5 hb5 hb5'
      go_wp2_with (first
        | (at_builtin; refine wpList_append_nb (B := w1.heap.size) rfl (.tmp 63) _ rfl rfl O5.out ?zpe 60 z60 Hz60.out rfl (by decide) (by decide) ?zpf ?zpg))
      case zpe => exact B5.out.size
      case zpf => omega
      intro A6 c6 w6 ho6 hb6
      have B6 := Lib.hid (Bu.out.trans ((B5.out.trans hb6).mono Bu.out.size))
      have hc6 := ho6.sl.cap
      have hc6i : (60 : Int) ≤ (c6 : Int) := by omega
      have hs6 := ho6.sl
      rw [← cells_append] at hs6
      have hs6' := hs6.sub1 0 60 c6 (by decide) (by omega) (by omega) hs6.top
      rw [List.drop_zero, show A6.map (·.add 0) = A6 by cases A6 <;> simp [Addr.add], show (l ++ z60).take (60 - 0) = h60 by rw [Hz60.out]; exact Hh.out.symm] at hs6'
      have hcl := rclosed_any A6 60 c6 h60 w6 hs6' (by decide)
      rw [← HL.out] at hcl
      clear ho6 hb6 hs6 hs6' hc6
      go_wp2_with fail
      refine hcl.mono ?_; clear hcl; rintro e w7 ⟨A7, n7, c7, rfl, ho7, hb7⟩
      obtain rfl : n7 = 64 := by have := ho7.sl.len; rw [cells_length, HLl.out] at this; omega
      have S7 := Lib.hid ho7.sl
      have B7 := Lib.hid (B6.out.trans (hb7.mono B6.out.size))
      have hg := sget_any A7 64 c7 L w7 S7.out (HN.out.keep B7.out)
      clear ho7 hb7
      rw [HE.out, HG.out] at hg
      go_wp2_with fail
      refine hg.mono ?_; clear hg; rintro e w8 ⟨rfl, hb8⟩
      have B8 := Lib.hid (B7.out.trans (hb8.mono B7.out.size))
      have S8 := Lib.hid (S7.out.below hb8 (Nat.le_refl _))
      obtain ⟨w9, hw9⟩ : ∃ w9, w9 = w8.alloc (.cells (Sh.cs G).toArray 26) := ⟨_, rfl⟩
      have hb9 : Below w8.heap.size w8 w9 := by rw [hw9]; exact (Below.refl _ _).alloc (Nat.le_refl _) _
      have X9 := Lib.hid (show ShB w9 w8.heap.size G by rw [hw9]; exact ShB.new w8 G)
      have B9 := Lib.hid (B8.out.trans (hb9.mono B8.out.size))
      have S9 := Lib.hid (S8.out.below hb9 (Nat.le_refl _))
      have Hw9 := Lib.hid hw9
      clear hb8 hb9 hw9
      have hp := sput_yes G HGo.out HGk.out w9 (HN.out.keep B9.out)
      rw [HGs.out] at hp
      go_wp2_with (first
        | (refine at_none11 ?_; refine wpList_store_shard (o := ⟨none, _, _, _, _, _⟩) rfl (.tmp 10) (.tmp 70) rfl w8 G rfl rfl ?_; rw [← Hw9.out])
        | (refine at_dst11 (d := 85) ?_; refine wpList_load_sh (o := ⟨some 85, _, _, _, _, _⟩) rfl (.tmp 10) rfl w8.heap.size G rfl X9.out ?_))
      refine hp.mono ?_; clear hp; rintro e w10 ⟨A10, rfl, hs10, _, hb⟩
      have B10 := Lib.hid (B9.out.trans (hb.mono B9.out.size))
      have k10 := str_of hs10
      have k11 := str_of (S9.out.below hb (Nat.le_refl _))
      have hl := lies_any w10 (HN.out.keep B10.out)
      clear hs10 hb
      go_wp2_with fail
      refine hl.mono ?_; clear hl; rintro e w11 ⟨rfl, hb⟩
      go_wp2_with fail
      go_ret
      exact ⟨rfl, B10.out.trans (hb.mono B10.out.size)⟩
    · have hp := sput_no s HK.out w0
      go_enter Tryd.func4, Tryd.ntmps4
      go_wp2_with (first
        | (rw [← Hw0.out])
        | (refine at_dst11 (d := 19) ?_; refine wpList_load_sh (o := ⟨some 19, _, _, _, _, _⟩) rfl (.tmp 2) rfl w.heap.size s rfl HS0.out ?_))
      refine hp.mono ?_; clear hp; rintro e w1 ⟨rfl, hb⟩
      have S1 := Lib.hid (HS0.out.later hb)
      have Bu := Lib.hid (HB0.out.trans (hb.mono HB0.out.size))
      have Hu := Lib.hid (H.out.below Bu.out (Nat.le_refl _))
      have ck := S1.out.k
      clear hb
      go_wp2_with (first
        | (at_builtin; refine wpList_append_b (B := w1.heap.size) rfl (.tmp 61) (.tmp 62) rfl rfl (Own.full (Sl.empty _ _ _ 0 (by decide))) ?zqa A n c l rfl ?zqb ?zqc ?zqd))
      try (case zqa => simp)
      case zqb => exact Hu.out.alloc _
      case zqc => omega
      intro A5 c5 w5 ho5 hb5
      have hb5' : Below w1.heap.size w1 w5 := ((Below.refl _ _).alloc (Nat.le_refl _) _).trans hb5
      have O5 := Lib.hid ho5
      have B5 := Lib.hid hb5'
      clear ho5 hb5 hb5'
      go_wp2_with (first
        | (at_builtin; refine wpList_append_nb (B := w1.heap.size) rfl (.tmp 63) _ rfl rfl O5.out ?zqe 60 z60 Hz60.out rfl (by decide) (by decide) ?zqf ?zqg))
      case zqe => exact B5.out.size
      case zqf => omega
      intro A6 c6 w6 ho6 hb6
      have B6 := Lib.hid (Bu.out.trans ((B5.out.trans hb6).mono Bu.out.size))
      have hc6 := ho6.sl.cap
      have hc6i : (60 : Int) ≤ (c6 : Int) := by omega
      have hs6 := ho6.sl
      rw [← cells_append] at hs6
      have hs6' := hs6.sub1 0 60 c6 (by decide) (by omega) (by omega) hs6.top
      rw [List.drop_zero, show A6.map (·.add 0) = A6 by cases A6 <;> simp [Addr.add], show (l ++ z60).take (60 - 0) = h60 by rw [Hz60.out]; exact Hh.out.symm] at hs6'
      have hcl := rclosed_any A6 60 c6 h60 w6 hs6' (by decide)
      rw [← HL.out] at hcl
      clear ho6 hb6 hs6 hs6' hc6
      go_wp2_with fail
      refine hcl.mono ?_; clear hcl; rintro e w7 ⟨A7, n7, c7, rfl, ho7, hb7⟩
      obtain rfl : n7 = 64 := by have := ho7.sl.len; rw [cells_length, HLl.out] at this; omega
      have S7 := Lib.hid ho7.sl
      have B7 := Lib.hid (B6.out.trans (hb7.mono B6.out.size))
      have hg := sget_any A7 64 c7 L w7 S7.out (HN.out.keep B7.out)
      clear ho7 hb7
      rw [HE.out, HG.out] at hg
      go_wp2_with fail
      refine hg.mono ?_; clear hg; rintro e w8 ⟨rfl, hb8⟩
      have B8 := Lib.hid (B7.out.trans (hb8.mono B7.out.size))
      have S8 := Lib.hid (S7.out.below hb8 (Nat.le_refl _))
      obtain ⟨w9, hw9⟩ : ∃ w9, w9 = w8.alloc (.cells (Sh.cs G).toArray 26) := ⟨_, rfl⟩
      have hb9 : Below w8.heap.size w8 w9 := by rw [hw9]; exact (Below.refl _ _).alloc (Nat.le_refl _) _
      have X9 := Lib.hid (show ShB w9 w8.heap.size G by rw [hw9]; exact ShB.new w8 G)
      have B9 := Lib.hid (B8.out.trans (hb9.mono B8.out.size))
      have S9 := Lib.hid (S8.out.below hb9 (Nat.le_refl _))
      have Hw9 := Lib.hid hw9
      clear hb8 hb9 hw9
      have hp := sput_yes G HGo.out HGk.out w9 (HN.out.keep B9.out)
      rw [HGs.out] at hp
      go_wp2_with (first
        | (refine at_none11 ?_; refine wpList_store_shard (o := ⟨none, _, _, _, _, _⟩) rfl (.tmp 10) (.tmp 70) rfl w8 G rfl rfl ?_; rw [← Hw9.out])
        | (refine at_dst11 (d := 85) ?_; refine wpList_load_sh (o := ⟨some 85, _, _, _, _, _⟩) rfl (.tmp 10) rfl w8.heap.size G rfl X9.out ?_))
      refine hp.mono ?_; clear hp; rintro e w10 ⟨A10, rfl, hs10, _, hb⟩
      have B10 := Lib.hid (B9.out.trans (hb.mono B9.out.size))
      have k10 := str_of hs10
      have k11 := str_of (S9.out.below hb (Nat.le_refl _))
      have hl := lies_any w10 (HN.out.keep B10.out)
      clear hs10 hb
      go_wp2_with fail
      refine hl.mono ?_; clear hl; rintro e w11 ⟨rfl, hb⟩
      go_wp2_with fail
      go_ret
      exact ⟨rfl, B10.out.trans (hb.mono B10.out.size)⟩
end
theorem shardBack_walk (s : Sh) (hs : s.Ok) (A : Option Addr) (n c : Nat) (l : List UInt8) (w : World) (h : Sl w 1 A n c (cells l)) (hN : Nt w) :
    Calls Tryd.prog 4 #[.agg s.cs.toArray, .slice A n c] w (SaysTrue w) := by
  by_cases hn : 60 < n
  · exact back_long s hs A n c l w h hN hn
  cases hk : s.kn
  · exact back_no s hs A n c l w h hN hn hk
  · exact back_yes s hs A n c l w h hN hn hk
end Go.Proofs.YtdhbgfnfbeapcaaDoor

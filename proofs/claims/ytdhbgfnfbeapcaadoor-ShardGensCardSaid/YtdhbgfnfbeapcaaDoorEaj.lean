/-
  Package shard's Get. Condition: the table reads as the row lists it ('Nt'). (Written by gen_eaj.py.)
-/
import Derived.Test.YtdhbgfnfbeapcaaDoorEai
namespace Go.Proofs.YtdhbgfnfbeapcaaDoor
open Go.RowKit Go.Proofs
set_option linter.unusedVariables false

set_option maxRecDepth 20000
set_option maxHeartbeats 1600000
theorem sget_short (A : Option Addr) (n c : Nat) (hn : n ≠ 64) (w : World) : Calls Tryd.prog 13 #[.slice A n c] w fun e w' => e = .returned (.tuple #[.agg (Sh.cs Sh.zero).toArray, .int .i64 2]) ∧ Below w.heap.size w w' := by
  have hz := zero_shard
  have hbz := build_zero
  have hd : ((n : Int) != 64) = true := by rw [bne_iff_ne]; omega
  have hb : Below w.heap.size w (w.alloc (.cells (Sh.cs Sh.zero).toArray 26)) := (Below.refl _ _).alloc (Nat.le_refl _) _
  have Hb := Lib.hid hb; clear hb hn
  have HSZ := Lib.hid (size_shard_a Sh.zero)
  have HON := Lib.hid (all_oneCell_toArray Sh.zero.cs_one)
  go_enter Tryd.func13, Tryd.ntmps13
  go_wp2_with (refine at_none11 ?_; refine wpList_store_new (o := ⟨none, _, _, _, _, _⟩) rfl 26 (.tmp 2) (.tmp 11) rfl w _ (Sh.cs Sh.zero).toArray 26 rfl rfl HSZ.out rfl HON.out ?_)
  refine bodyPost_ret (results_cell_pair Tryd.results13 _ _ w.heap.size 26 _ (0, 0) _ rfl (heap_alloc_new w _) Tryd.underlying26 rfl HSZ.out) rfl ⟨rfl, Hb.out⟩
theorem one_at {l : List UInt8} {a : Nat} (h : a < l.length) : leVal ((l.drop a).take 1) = (l.getD a 0).toNat := by
  rw [List.drop_eq_getElem_cons h, List.take_succ_cons, List.take_zero, leVal_one, List.getD_eq_getElem?_getD, List.getElem?_eq_getElem h, Option.getD_some]
theorem below_setRow {B g : Nat} {a w : World} (h : Below B a w) (hg : B ≤ g) (cs : Array Value) : Below B a (w.setRow g cs) := ⟨h.os, h.tape, h.output, by simpa using h.size, fun k hk => (setRow_other _ _ _ _ (by omega)).trans (h.block k hk)⟩
theorem tnumber_at (t0 t1 c a m a2 : Nat) (A : Option Addr) (l : List UInt8) (w : World) (h : Tk w t0 t1 A 64 c l a) (h1 : 1 ≤ m) (h8 : m ≤ 8) (ha : a + m ≤ 64) (h2 : a + m = a2) (k : Int) (hk : k = (m : Int)) (x : Nat) (hx : leVal ((l.drop a).take m) = x) :
    Calls Tryd.prog 31 #[.int .i64 k, .pointer (some ⟨t0, 0, none⟩), .pointer (some ⟨t1, 0, none⟩)] w fun e w' => e = .returned (.int .u64 (x : Int)) ∧ Tk w' t0 t1 A 64 c l a2 ∧ Fr (fun b => b = t1) w w' := by
  subst h2 hk hx
  exact tnumber_any t0 t1 64 c a m A l w h (by decide) h1 h8 ha
theorem leVal_bound (l : List UInt8) (a m : Nat) (hl : l.length = 64) (ha : a + m ≤ 64) : leVal ((l.drop a).take m) < 256 ^ m := by
  have := leVal_lt ((l.drop a).take m)
  rwa [List.length_take, List.length_drop, hl, Nat.min_eq_left (by omega)] at this
theorem sget_long (A : Option Addr) (c : Nat) (l : List UInt8) (hl : l.length = 64) (w : World) (h : Sl w 1 A 64 c (cells l)) (hN0 : Nt w) : Calls Tryd.prog 13 #[.slice A 64 c] w fun e w' => e = .returned (.tuple #[.agg (getS l).cs.toArray, .int .i64 (getE l : Int)]) ∧ Below w.heap.size w w' := by
  have HN := Lib.hid hN0
  clear hN0
  have hcap := h.cap
  have htop := h.top
  have hzv := zero_shard
  have hbz := build_zero
  obtain ⟨w0, hw0⟩ : ∃ w0, w0 = w.alloc (.cells (Sh.cs Sh.zero).toArray 26) := ⟨_, rfl⟩
  have hb0 : Below w.heap.size w w0 := by rw [hw0]; exact (Below.refl _ _).alloc (Nat.le_refl _) _
  have hz0 : w0.heap.size = w.heap.size + 1 := by rw [hw0]; simp
  have hbr : w0.heap[w.heap.size]? = some (.cells (Sh.cs Sh.zero).toArray 26 (0, 0)) := by rw [hw0]; exact heap_alloc_new w _
  have HB0 := Lib.hid hb0; have HZ0 := Lib.hid hz0; have HBR := Lib.hid hbr; have Hw0 := Lib.hid hw0
  have HS := Lib.hid h
  have HL := Lib.hid hl
  obtain ⟨k0, hx0⟩ : ∃ u : UInt8, leVal ((l.drop 0).take 1) = u.toNat := ⟨l.getD 0 0, one_at (by omega)⟩
  have y0 : k0.toNat < 256 := k0.toNat_lt
  have HX0 := Lib.hid hx0
  obtain ⟨k1, hx1⟩ : ∃ u : UInt8, leVal ((l.drop 1).take 1) = u.toNat := ⟨l.getD 1 0, one_at (by omega)⟩
  have y1 : k1.toNat < 256 := k1.toNat_lt
  have HX1 := Lib.hid hx1
  obtain ⟨x2, hx2⟩ : ∃ x, leVal ((l.drop 2).take 2) = x := ⟨_, rfl⟩
  have y2 : x2 < 65536 := by rw [← hx2]; exact leVal_bound l 2 2 hl (by decide)
  have HX2 := Lib.hid hx2
  obtain ⟨x3, hx3⟩ : ∃ x, leVal ((l.drop 4).take 8) = x := ⟨_, rfl⟩
  have y3 : x3 < 18446744073709551616 := by rw [← hx3]; exact leVal_bound l 4 8 hl (by decide)
  have HX3 := Lib.hid hx3
  obtain ⟨x4, hx4⟩ : ∃ x, leVal ((l.drop 12).take 2) = x := ⟨_, rfl⟩
  have y4 : x4 < 65536 := by rw [← hx4]; exact leVal_bound l 12 2 hl (by decide)
  have HX4 := Lib.hid hx4
  obtain ⟨x5, hx5⟩ : ∃ x, leVal ((l.drop 14).take 2) = x := ⟨_, rfl⟩
  have y5 : x5 < 65536 := by rw [← hx5]; exact leVal_bound l 14 2 hl (by decide)
  have HX5 := Lib.hid hx5
  have hset : (((((Sh.zero.cs.set 0 (.int .u8 (k0.toNat : Int))).set 1 (.int .u8 (k1.toNat : Int))).set 2 (.int .u16 (x2 : Int))).set 3 (.int .u64 (x3 : Int))).set 4 (.int .u16 (x4 : Int))) = Sh.cs ⟨k0, k1, x2, x3, x4, Sh.zero.body⟩ := by simp only [Sh.cs, Sh.zero, List.set_cons_zero, List.set_cons_succ]
  have HSET := Lib.hid hset
  have HSZ := Lib.hid (size_shard_a ⟨k0, k1, x2, x3, x4, Sh.zero.body⟩)
  have HON := Lib.hid (all_oneCell_toArray (Sh.cs_one ⟨k0, k1, x2, x3, x4, Sh.zero.body⟩))
  have HSS := Lib.hid (show (Sh.cs Sh.zero).toArray.size = (Sh.cs ⟨k0, k1, x2, x3, x4, Sh.zero.body⟩).toArray.size by rw [List.size_toArray, List.size_toArray, Sh.cs_len, Sh.cs_len])
  clear hset
  clear hb0 hz0 hbr hw0 hx0 hx1 hx2 hx3 hx4 hx5 h
  go_enter Tryd.func13, Tryd.ntmps13
  go_wp2_with (rw [← Hw0.out])
  refine (takers_any _ _ _ _).mono ?_; rintro e w1 ⟨rfl, hw1⟩
  have T1 := Lib.hid (show Tk w1 w0.heap.size (w0.heap.size + 1) A 64 c l 0 by rw [hw1]; exact Tk.new w0 A 64 c l (HS.out.below HB0.out (Nat.le_refl _)))
  have F1 := Lib.hid (show Below w0.heap.size w0 w1 by rw [hw1]; exact ((Below.refl _ _).alloc (Nat.le_refl _) _).alloc (by simp) _)
  clear hw1 hl
  go_wp2_with fail
  refine (tnumber_at w0.heap.size (w0.heap.size + 1) c 0 1 1 A l w1 T1.out (by decide) (by decide) (by decide) rfl _ rfl k0.toNat HX0.out).mono ?_
  rintro e w2 ⟨rfl, hT, hF⟩
  have T2 := Lib.hid hT
  have F2 := Lib.hid (F1.out.trans (hF.below F1.out.size (fun b hb => by have h1 : b = w0.heap.size + 1 := hb; omega)))
  clear hT hF
  go_wp2_with fail
  refine (tnumber_at w0.heap.size (w0.heap.size + 1) c 1 1 2 A l w2 T2.out (by decide) (by decide) (by decide) rfl _ rfl k1.toNat HX1.out).mono ?_
  rintro e w3 ⟨rfl, hT, hF⟩
  have T3 := Lib.hid hT
  have F3 := Lib.hid (F2.out.trans (hF.below F2.out.size (fun b hb => by have h1 : b = w0.heap.size + 1 := hb; omega)))
  clear hT hF
  go_wp2_with fail
  refine (tnumber_at w0.heap.size (w0.heap.size + 1) c 2 2 4 A l w3 T3.out (by decide) (by decide) (by decide) rfl _ rfl x2 HX2.out).mono ?_
  rintro e w4 ⟨rfl, hT, hF⟩
  have T4 := Lib.hid hT
  have F4 := Lib.hid (F3.out.trans (hF.below F3.out.size (fun b hb => by have h1 : b = w0.heap.size + 1 := hb; omega)))
  clear hT hF
  go_wp2_with fail
  refine (tnumber_at w0.heap.size (w0.heap.size + 1) c 4 8 12 A l w4 T4.out (by decide) (by decide) (by decide) rfl _ rfl x3 HX3.out).mono ?_
  rintro e w5 ⟨rfl, hT, hF⟩
  have T5 := Lib.hid hT
  have F5 := Lib.hid (F4.out.trans (hF.below F4.out.size (fun b hb => by have h1 : b = w0.heap.size + 1 := hb; omega)))
  clear hT hF
  go_wp2_with fail
  refine (tnumber_at w0.heap.size (w0.heap.size + 1) c 12 2 14 A l w5 T5.out (by decide) (by decide) (by decide) rfl _ rfl x4 HX4.out).mono ?_
  rintro e w6 ⟨rfl, hT, hF⟩
  have T6 := Lib.hid hT
  have F6 := Lib.hid (F5.out.trans (hF.below F5.out.size (fun b hb => by have h1 : b = w0.heap.size + 1 := hb; omega)))
  clear hT hF
  obtain ⟨w7, hw7⟩ : ∃ w7, w7 = w6.alloc (.cells (Sh.cs ⟨k0, k1, x2, x3, x4, Sh.zero.body⟩).toArray 26) := ⟨_, rfl⟩
  have hb7 : Below w6.heap.size w6 w7 := by rw [hw7]; exact (Below.refl _ _).alloc (Nat.le_refl _) _
  have T7 := Lib.hid (T6.out.later hb7)
  have F7 := Lib.hid (F6.out.trans (hb7.mono F6.out.size))
  have B7 := Lib.hid (show ShB w7 w6.heap.size ⟨k0, k1, x2, x3, x4, Sh.zero.body⟩ by rw [hw7]; exact ShB.new w6 _)
  have Hw7 := Lib.hid hw7
  clear hw7 hb7
  go_wp2_with (first | (refine at_none11 ?_; refine wpList_store_new (o := ⟨none, _, _, _, _, _⟩) rfl 26 (.tmp 6) (.tmp 31) rfl w6 _ (Sh.cs ⟨k0, k1, x2, x3, x4, Sh.zero.body⟩).toArray 26 rfl (congrArg (fun l => Value.agg (List.toArray l)) HSET.out) HSZ.out HSS.out HON.out ?_; rw [← Hw7.out]))
  refine (tnumber_at w0.heap.size (w0.heap.size + 1) c 14 2 16 A l w7 T7.out (by decide) (by decide) (by decide) rfl _ rfl x5 HX5.out).mono ?_
  rintro e w8 ⟨rfl, hT, hF⟩
  have T8 := Lib.hid hT
  have F8 := Lib.hid (F7.out.trans (hF.below F7.out.size (fun b hb => by have h1 : b = w0.heap.size + 1 := hb; omega)))
  have hfr7 := hF
  clear hT hF
  go_wp2_with fail
  obtain ⟨X, hX⟩ : ∃ X, X = (l.drop 16).take 44 := ⟨_, rfl⟩
  have hne : w6.heap.size ≠ w0.heap.size + 1 := by have := block_lt T6.out.s1; omega
  have B8 := Lib.hid (B7.out.fr hfr7 hne)
  refine (tbody_any w0.heap.size (w0.heap.size + 1) 64 c 16 A l w8 T8.out (by decide) (by decide)).mono ?_
  rintro e w9 ⟨rfl, hT, hF⟩
  rw [← hX]
  have T9 := Lib.hid hT
  have F9 := Lib.hid (F8.out.trans (hF.below F8.out.size (fun b hb => by have h1 : b = w0.heap.size + 1 := hb; omega)))
  have B9 := Lib.hid (B8.out.fr hF hne)
  obtain ⟨w10, hw10⟩ : ∃ w10, w10 = w9.setCells w6.heap.size 5 (cells (pad44 X)).toArray.toList := ⟨_, rfl⟩
  have hsb := B9.out.setBody X
  rw [show (cells (pad44 X)) = (cells (pad44 X)).toArray.toList from rfl, ← hw10] at hsb
  have hltA : ∀ b o, 0 < 64 → A = some ⟨b, o, none⟩ → b ≠ w6.heap.size := fun b o h0 hA => by
    have h1 := HS.out.lt (by decide) h0 hA
    have h2 := HZ0.out
    have h3 := F6.out.size
    omega
  have T10 := Lib.hid (T9.out.fr hsb.2 (by have := block_lt T6.out.s0; show ¬ _ = _; omega) (by show ¬ _ = _; omega) hltA)
  have F10 := Lib.hid (F9.out.trans (hsb.2.below F9.out.size (fun b hb => by have h1 : b = w6.heap.size := hb; have := F6.out.size; omega)))
  have B10 := Lib.hid hsb.1
  have HNE := Lib.hid hne
  have HX := Lib.hid hX
  have Hw10 := Lib.hid hw10
  have e44 : (cells (pad44 X)).toArray.size = 44 := by rw [List.size_toArray, cells_length, pad44_len]
  have HTH := Lib.hid (show w9.there w6.heap.size 5 (cells (pad44 X)).toArray.size by rw [e44]; exact B9.out.there)
  have HS44 := Lib.hid (show (Tryd.prog.info? 24).map (·.size) = some (cells (pad44 X)).toArray.size by rw [List.size_toArray]; exact size_b44l X)
  have HO44 := Lib.hid (all_oneCell_toArray (cells_one (pad44 X)))
  clear hT hF hsb hw10 hX hne hfr7 hltA e44
  go_wp2_with (first | (refine at_none11 ?_; refine wpList_store_mid (op := ⟨none, _, _, _, _, _⟩) rfl 24 (.tmp 36) (.tmp 35) rfl w6.heap.size 5 (cells (pad44 X)).toArray rfl rfl HTH.out HS44.out HO44.out ?_; rw [← Hw10.out]))
  have hsh : shardOf l = ⟨k0, k1, x2, x3, x4, X⟩ := by
    have e0 : l.getD 0 0 = k0 := UInt8.toNat_inj.1 ((one_at (by rw [HL.out]; decide)).symm.trans HX0.out)
    have e1 : l.getD 1 0 = k1 := UInt8.toNat_inj.1 ((one_at (by rw [HL.out]; decide)).symm.trans HX1.out)
    rw [shardOf, e0, e1, HX2.out, HX3.out, HX4.out, ← HX.out]
  have HSH := Lib.hid hsh
  clear hsh
  obtain ⟨x6, hx6⟩ : ∃ x, leVal ((l.drop 60).take 4) = x := ⟨_, rfl⟩
  have y6 : x6 < 4294967296 := by rw [← hx6]; exact leVal_bound l 60 4 HL.out (by decide)
  have HX6 := Lib.hid hx6
  obtain ⟨q, hq⟩ : ∃ q, q = sumOf (l.take 60) := ⟨_, rfl⟩
  have yq : q < 4294967296 := by rw [hq]; exact sumOf_lt _
  have HQ := Lib.hid hq
  have HD := Lib.hid (show Below w10.heap.size w10 w10.drew from Below.drew (Below.refl _ _))
  have hwq : IntKind.u64.wrap (q : Int) = (q : Int) := by rw [IntKind.wrap_u64]; omega
  have hc60 : (60 : Int) ≤ (c : Int) := by omega
  have HNT := Lib.hid (HN.out.keep ((HB0.out.trans (F10.out.mono (by have := HZ0.out; omega)))))
  clear hx6 hq
  have HZS := Lib.hid (size_shard_a Sh.zero)
  have HZO := Lib.hid (all_oneCell_toArray Sh.zero.cs_one)
  by_cases hsum : x6 = q
  · have hd : ((x6 : Int) != (q : Int)) = false := by rw [hsum]; simp
    have hs' : leVal ((l.drop 60).take 4) = sumOf (l.take 60) := by rw [HX6.out, ← HQ.out]; exact hsum
    have Hs := Lib.hid hs'
    clear hsum hs'
    refine wp_region_held_drew (S := fun w' => Fr (fun b => b = w0.heap.size + 1) w10.drew w') (by kernel_rfl) (Fr.refl _ _) (fun hHeld => ?_)
    clear hHeld
    refine wpAnyH_take (i := 0) (oi := ⟨some 37, _, _, _, _, _⟩) (v := ?vb0) rfl (by kernel_rfl) (by kernel_rfl) (by kernel_rfl) (fun _ _ _ h => h) (Or.inl ⟨by rfl, ?yb0⟩) (Fr.refl _ _) ?rb0
    case yb0 =>
      intro wq hSw
      (try dsimp only at hSw)
      first | (go_simp; done) | (go_simp; with_reducible rfl)
    try simp only [Act.put, List.setIfInBounds_toArray, List.set_cons_zero, List.set_cons_succ]
    refine wpAnyH_take (i := 2) (oi := ⟨some 39, _, _, _, _, _⟩) (v := ?vb2) rfl (by kernel_rfl) (by kernel_rfl) (by kernel_rfl) (fun _ _ _ h => h) (Or.inl ⟨by rfl, ?yb2⟩) (Fr.refl _ _) ?rb2
    case yb2 =>
      intro wq hSw
      (try dsimp only at hSw)
      first | (go_simp; done) | (go_simp; with_reducible rfl)
    try simp only [Act.put, List.setIfInBounds_toArray, List.set_cons_zero, List.set_cons_succ]
    refine wpAnyH_take (i := 3) (oi := ⟨some 40, _, _, _, _, _⟩) (v := ?vb3) rfl (by kernel_rfl) (by kernel_rfl) (by kernel_rfl) (fun _ _ _ h => h) (Or.inl ⟨by rfl, ?yb3⟩) (Fr.refl _ _) ?rb3
    case yb3 =>
      intro wq hSw
      (try dsimp only at hSw)
      first | (go_simp; done) | (go_simp; with_reducible rfl)
    try simp only [Act.put, List.setIfInBounds_toArray, List.set_cons_zero, List.set_cons_succ]
    refine wpAnyH_ready (rs := [1]) (by kernel_rfl) (by simp) ?_
    refine AllReadyH.cons (o := ⟨some 38, _, _, _, _, _⟩) rfl (fun K hK => ?_) AllReadyH.nil
    go_simp
    refine (tnumber_at w0.heap.size (w0.heap.size + 1) c 60 4 64 A l w10.drew (T10.out.later HD.out) (by decide) (by decide) (by decide) rfl _ rfl x6 HX6.out).mono ?_
    rintro e w11 ⟨rfl, hT, hF⟩
    have hfr : Fr (fun b => b = w0.heap.size + 1) w10.drew w11 := hF
    have T11 := Lib.hid hT
    have F11 := Lib.hid ((F10.out.trans (HD.out.mono F10.out.size)).trans (hF.below F10.out.size (fun b hb => by have h1 : b = w0.heap.size + 1 := hb; omega)))
    have B11 := Lib.hid ((B10.out.later HD.out).fr hF HNE.out)
    have NT11 := Lib.hid (HN.out.keep (HB0.out.trans (F11.out.mono (by have := HZ0.out; omega))))
    clear hT hF
    go_wp2_with fail
    refine hK.out _ _ hfr (fun hHeld => ?_)
    clear hK K hHeld
    try simp only [Act.put, List.setIfInBounds_toArray, List.set_cons_zero, List.set_cons_succ]
    refine wpAnyH_re (S' := fun w' => Fr (fun b => b = w0.heap.size + 1) w11 w') (fun w' h => hfr.trans h) ?_
    clear hfr
    refine wpAnyH_ready (rs := [4]) (by kernel_rfl) (by simp) ?_
    refine AllReadyH.cons (o := ⟨some 41, _, _, _, _, _⟩) rfl (fun K hK => ?_) AllReadyH.nil
    go_simp
    have hsl := T11.out.sl.sub1 0 60 c (by decide) (by decide) (by omega) htop
    rw [List.drop_zero, show A.map (·.add 0) = A by cases A <;> simp [Addr.add]] at hsl
    refine (sum_any A 60 c (l.take 60) w11 hsl NT11.out).mono ?_
    rintro e w12 ⟨rfl, hb12⟩
    have hfr := Fr.of_below (S := fun b => b = w0.heap.size + 1) hb12
    have F12 := Lib.hid (F11.out.trans (hb12.mono F11.out.size))
    have B12 := Lib.hid (B11.out.later hb12)
    rw [show (more 0 (l.take 60)).toNat = q from HQ.out.symm]
    clear hb12 hsl
    go_wp2_with fail
    refine hK.out _ _ hfr (fun hHeld => ?_)
    clear hK K hHeld
    try simp only [Act.put, List.setIfInBounds_toArray, List.set_cons_zero, List.set_cons_succ]
    refine wpAnyH_re (S' := fun w' => Fr (fun b => b = w0.heap.size + 1) w12 w') (fun w' h => hfr.trans h) ?_
    clear hfr
    refine wpAnyH_take (i := 5) (oi := ⟨some 42, _, _, _, _, _⟩) (v := ?vb5) rfl (by kernel_rfl) (by kernel_rfl) (by kernel_rfl) (fun _ _ _ h => h) (Or.inl ⟨by rfl, ?yb5⟩) (Fr.refl _ _) ?rb5
    case yb5 =>
      intro wq hSw
      (try dsimp only at hSw)
      first | (go_simp; done) | (go_simp; with_reducible rfl)
    try simp only [Act.put, List.setIfInBounds_toArray, List.set_cons_zero, List.set_cons_succ]
    refine wpAnyH_take (i := 6) (oi := ⟨some 43, _, _, _, _, _⟩) (v := ?vb6) rfl (by kernel_rfl) (by kernel_rfl) (by kernel_rfl) (fun _ _ _ h => h) (Or.inl ⟨by rfl, ?yb6⟩) (Fr.refl _ _) ?rb6
    case yb6 =>
      intro wq hSw
      (try dsimp only at hSw)
      first | (go_simp; done) | (go_simp; with_reducible rfl)
    try simp only [Act.put, List.setIfInBounds_toArray, List.set_cons_zero, List.set_cons_succ]
    refine wpAnyH_done (by kernel_rfl) ?_ _
    have BRX := Lib.hid ((F12.out.block _ (by have := HZ0.out; omega)).trans HBR.out)
    have BLX := Lib.hid (HB0.out.trans (F12.out.mono (by have := HZ0.out; omega)))
    have ck := B12.out.k
    go_wp2_with fail
    refine (known_any k0 w12).mono ?_; rintro e w13 ⟨rfl, hw13⟩
    obtain rfl : w12 = w13 := hw13
    have hkn : (shardOf l).kn = (decide (1 ≤ k0.toNat) && decide (k0.toNat ≤ 4)) := by rw [HSH.out]; rfl
    clear ck
    cases hb : (decide (1 ≤ k0.toNat) && decide (k0.toNat ≤ 4))
    · rw [hb] at hkn
      have HE := Lib.hid (getE_form HL.out Hs.out (.inl hkn))
      have HG := Lib.hid (getS_err (l := l) (by rw [HE.out]; decide))
      clear hkn hb
      go_wp2_with (refine at_none11 ?_; refine wpList_store_row (o := ⟨none, _, _, _, _, _⟩) rfl 26 (.tmp 2) (.tmp 53) rfl w.heap.size (Sh.cs Sh.zero).toArray rfl rfl 26 _ BRX.out HZS.out rfl HZO.out ?_)
      refine bodyPost_ret (results_cell_pair Tryd.results13 _ _ w.heap.size 26 _ (0, 0) _ rfl (setRow_heap _ _ _ _ _ _ BRX.out) Tryd.underlying26 rfl HZS.out) rfl ⟨by rw [HE.out, HG.out]; rfl, below_setRow BLX.out (Nat.le_refl _) _⟩
    · rw [hb] at hkn
      by_cases h5 : x5 = 0
      · have HE := Lib.hid (getE_fine HL.out Hs.out hkn (by rw [HX5.out]; exact h5))
        have HG := Lib.hid ((getS_fine HE.out).trans HSH.out)
        have HFS := Lib.hid (size_shard_a ⟨k0, k1, x2, x3, x4, X⟩)
        have HFO := Lib.hid (all_oneCell_toArray (Sh.cs_one ⟨k0, k1, x2, x3, x4, X⟩))
        have HFF := Lib.hid (show (Sh.cs Sh.zero).toArray.size = (Sh.cs ⟨k0, k1, x2, x3, x4, X⟩).toArray.size by rw [List.size_toArray, List.size_toArray, Sh.cs_len, Sh.cs_len])
        have h5i : ((x5 : Int) != 0) = false := by rw [h5]; rfl
        clear hkn hb h5
        go_wp2_with (first
          | (refine at_dst11 (d := 54) ?_; refine wpList_load_row (o := ⟨some 54, _, _, _, _, _⟩) rfl 26 (.tmp 6) rfl w6.heap.size rfl 26 (Sh.cs ⟨k0, k1, x2, x3, x4, X⟩).toArray (0, 0) _ B12.out Tryd.underlying26 rfl HFS.out ?_)
          | (refine at_none11 ?_; refine wpList_store_row (o := ⟨none, _, _, _, _, _⟩) rfl 26 (.tmp 2) (.tmp 54) rfl w.heap.size (Sh.cs ⟨k0, k1, x2, x3, x4, X⟩).toArray rfl rfl 26 _ BRX.out HFS.out HFF.out HFO.out ?_))
        refine bodyPost_ret (results_cell_pair Tryd.results13 _ _ w.heap.size 26 _ (0, 0) _ rfl (setRow_heap _ _ _ _ _ _ BRX.out) Tryd.underlying26 rfl HFS.out) rfl ⟨by rw [HE.out, HG.out]; rfl, below_setRow BLX.out (Nat.le_refl _) _⟩
      · have HE := Lib.hid (getE_form HL.out Hs.out (.inr (by rw [HX5.out]; exact h5)))
        have HG := Lib.hid (getS_err (l := l) (by rw [HE.out]; decide))
        have h5i : ((x5 : Int) != 0) = true := by rw [bne_iff_ne]; omega
        clear hkn hb h5
        go_wp2_with (refine at_none11 ?_; refine wpList_store_row (o := ⟨none, _, _, _, _, _⟩) rfl 26 (.tmp 2) (.tmp 53) rfl w.heap.size (Sh.cs Sh.zero).toArray rfl rfl 26 _ BRX.out HZS.out rfl HZO.out ?_)
        refine bodyPost_ret (results_cell_pair Tryd.results13 _ _ w.heap.size 26 _ (0, 0) _ rfl (setRow_heap _ _ _ _ _ _ BRX.out) Tryd.underlying26 rfl HZS.out) rfl ⟨by rw [HE.out, HG.out]; rfl, below_setRow BLX.out (Nat.le_refl _) _⟩
  · have hd : ((x6 : Int) != (q : Int)) = true := by rw [bne_iff_ne]; omega
    have HE := Lib.hid (getE_sum HL.out (by rw [HX6.out, ← HQ.out]; exact hsum))
    have HG := Lib.hid (getS_err (l := l) (by rw [HE.out]; decide))
    clear hsum
    refine wp_region_held_drew (S := fun w' => Fr (fun b => b = w0.heap.size + 1) w10.drew w') (by kernel_rfl) (Fr.refl _ _) (fun hHeld => ?_)
    clear hHeld
    refine wpAnyH_take (i := 0) (oi := ⟨some 37, _, _, _, _, _⟩) (v := ?va0) rfl (by kernel_rfl) (by kernel_rfl) (by kernel_rfl) (fun _ _ _ h => h) (Or.inl ⟨by rfl, ?ya0⟩) (Fr.refl _ _) ?ra0
    case ya0 =>
      intro wq hSw
      (try dsimp only at hSw)
      first | (go_simp; done) | (go_simp; with_reducible rfl)
    try simp only [Act.put, List.setIfInBounds_toArray, List.set_cons_zero, List.set_cons_succ]
    refine wpAnyH_take (i := 2) (oi := ⟨some 39, _, _, _, _, _⟩) (v := ?va2) rfl (by kernel_rfl) (by kernel_rfl) (by kernel_rfl) (fun _ _ _ h => h) (Or.inl ⟨by rfl, ?ya2⟩) (Fr.refl _ _) ?ra2
    case ya2 =>
      intro wq hSw
      (try dsimp only at hSw)
      first | (go_simp; done) | (go_simp; with_reducible rfl)
    try simp only [Act.put, List.setIfInBounds_toArray, List.set_cons_zero, List.set_cons_succ]
    refine wpAnyH_take (i := 3) (oi := ⟨some 40, _, _, _, _, _⟩) (v := ?va3) rfl (by kernel_rfl) (by kernel_rfl) (by kernel_rfl) (fun _ _ _ h => h) (Or.inl ⟨by rfl, ?ya3⟩) (Fr.refl _ _) ?ra3
    case ya3 =>
      intro wq hSw
      (try dsimp only at hSw)
      first | (go_simp; done) | (go_simp; with_reducible rfl)
    try simp only [Act.put, List.setIfInBounds_toArray, List.set_cons_zero, List.set_cons_succ]
    refine wpAnyH_ready (rs := [1]) (by kernel_rfl) (by simp) ?_
    refine AllReadyH.cons (o := ⟨some 38, _, _, _, _, _⟩) rfl (fun K hK => ?_) AllReadyH.nil
    go_simp
    refine (tnumber_at w0.heap.size (w0.heap.size + 1) c 60 4 64 A l w10.drew (T10.out.later HD.out) (by decide) (by decide) (by decide) rfl _ rfl x6 HX6.out).mono ?_
    rintro e w11 ⟨rfl, hT, hF⟩
    have hfr : Fr (fun b => b = w0.heap.size + 1) w10.drew w11 := hF
    have T11 := Lib.hid hT
    have F11 := Lib.hid ((F10.out.trans (HD.out.mono F10.out.size)).trans (hF.below F10.out.size (fun b hb => by have h1 : b = w0.heap.size + 1 := hb; omega)))
    have B11 := Lib.hid ((B10.out.later HD.out).fr hF HNE.out)
    have NT11 := Lib.hid (HN.out.keep (HB0.out.trans (F11.out.mono (by have := HZ0.out; omega))))
    clear hT hF
    go_wp2_with fail
    refine hK.out _ _ hfr (fun hHeld => ?_)
    clear hK K hHeld
    try simp only [Act.put, List.setIfInBounds_toArray, List.set_cons_zero, List.set_cons_succ]
    refine wpAnyH_re (S' := fun w' => Fr (fun b => b = w0.heap.size + 1) w11 w') (fun w' h => hfr.trans h) ?_
    clear hfr
    refine wpAnyH_ready (rs := [4]) (by kernel_rfl) (by simp) ?_
    refine AllReadyH.cons (o := ⟨some 41, _, _, _, _, _⟩) rfl (fun K hK => ?_) AllReadyH.nil
    go_simp
    have hsl := T11.out.sl.sub1 0 60 c (by decide) (by decide) (by omega) htop
    rw [List.drop_zero, show A.map (·.add 0) = A by cases A <;> simp [Addr.add]] at hsl
    refine (sum_any A 60 c (l.take 60) w11 hsl NT11.out).mono ?_
    rintro e w12 ⟨rfl, hb12⟩
    have hfr := Fr.of_below (S := fun b => b = w0.heap.size + 1) hb12
    have F12 := Lib.hid (F11.out.trans (hb12.mono F11.out.size))
    have B12 := Lib.hid (B11.out.later hb12)
    rw [show (more 0 (l.take 60)).toNat = q from HQ.out.symm]
    clear hb12 hsl
    go_wp2_with fail
    refine hK.out _ _ hfr (fun hHeld => ?_)
    clear hK K hHeld
    try simp only [Act.put, List.setIfInBounds_toArray, List.set_cons_zero, List.set_cons_succ]
    refine wpAnyH_re (S' := fun w' => Fr (fun b => b = w0.heap.size + 1) w12 w') (fun w' h => hfr.trans h) ?_
    clear hfr
    refine wpAnyH_take (i := 5) (oi := ⟨some 42, _, _, _, _, _⟩) (v := ?va5) rfl (by kernel_rfl) (by kernel_rfl) (by kernel_rfl) (fun _ _ _ h => h) (Or.inl ⟨by rfl, ?ya5⟩) (Fr.refl _ _) ?ra5
    case ya5 =>
      intro wq hSw
      (try dsimp only at hSw)
      first | (go_simp; done) | (go_simp; with_reducible rfl)
    try simp only [Act.put, List.setIfInBounds_toArray, List.set_cons_zero, List.set_cons_succ]
    refine wpAnyH_take (i := 6) (oi := ⟨some 43, _, _, _, _, _⟩) (v := ?va6) rfl (by kernel_rfl) (by kernel_rfl) (by kernel_rfl) (fun _ _ _ h => h) (Or.inl ⟨by rfl, ?ya6⟩) (Fr.refl _ _) ?ra6
    case ya6 =>
      intro wq hSw
      (try dsimp only at hSw)
      first | (go_simp; done) | (go_simp; with_reducible rfl)
    try simp only [Act.put, List.setIfInBounds_toArray, List.set_cons_zero, List.set_cons_succ]
    refine wpAnyH_done (by kernel_rfl) ?_ _
    have BRX := Lib.hid ((F12.out.block _ (by have := HZ0.out; omega)).trans HBR.out)
    have BLX := Lib.hid (HB0.out.trans (F12.out.mono (by have := HZ0.out; omega)))
    go_wp2_with (refine at_none11 ?_; refine wpList_store_row (o := ⟨none, _, _, _, _, _⟩) rfl 26 (.tmp 2) (.tmp 44) rfl w.heap.size (Sh.cs Sh.zero).toArray rfl rfl 26 _ BRX.out HZS.out rfl HZO.out ?_)
    refine bodyPost_ret (results_cell_pair Tryd.results13 _ _ w.heap.size 26 _ (0, 0) _ rfl (setRow_heap _ _ _ _ _ _ BRX.out) Tryd.underlying26 rfl HZS.out) rfl ⟨by rw [HE.out, HG.out]; rfl, below_setRow BLX.out (Nat.le_refl _) _⟩
theorem sget_any (A : Option Addr) (n c : Nat) (l : List UInt8) (w : World) (h : Sl w 1 A n c (cells l)) (hN : Nt w) : Calls Tryd.prog 13 #[.slice A n c] w fun e w' => e = .returned (.tuple #[.agg (getS l).cs.toArray, .int .i64 (getE l : Int)]) ∧ Below w.heap.size w w' := by
  have hl : l.length = n := by have := h.len; rw [cells_length, Nat.mul_one] at this; exact this
  by_cases hn : n = 64
  · subst hn
    exact sget_long A c l hl w h hN
  · have hE : getE l = 2 := getE_len (by omega)
    rw [hE, getS_err (by rw [hE]; decide)]
    exact sget_short A n c hn w
end Go.Proofs.YtdhbgfnfbeapcaaDoor

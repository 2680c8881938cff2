/-
  The document's Get (layer 11). No condition. (Written by gen_eam.py.)
-/
import Derived.Test.YtdhbgfnfbeapcaaDoorEal
import Derived.Deep.DeepCutAuto
namespace Go.Proofs.YtdhbgfnfbeapcaaDoor
open Go.RowKit Go.Proofs
set_option linter.unusedVariables false

/-- 64 bytes end in the sum of the others just if they are these, closed. -/
theorem closed_iff {l : List UInt8} (hl : l.length = 64) : closed (l.take 60) = l ↔ leVal ((l.drop 60).take 4) = sumOf (l.take 60) := by
  have h60 : (l.take 60).length = 60 := by rw [List.length_take]; omega
  constructor
  · intro h
    have := closed_sum (l.take 60) h60
    rw [closed_take _ h60, h] at this
    exact this
  · intro h
    have e4 := le_leVal ((l.drop 60).take 4)
    rw [show ((l.drop 60).take 4).length = 4 by rw [List.length_take, List.length_drop, hl]; rfl, h] at e4
    have ed : (l.drop 60).take 4 = l.drop 60 := List.take_of_length_le (by rw [List.length_drop, hl]; exact Nat.le_refl _)
    rw [closed, e4, ed, List.take_append_drop]
/-- The first k bytes of the body, and noughts. -/
def bodyK (l : List UInt8) (k : Nat) : List UInt8 := (l.drop 16).take k ++ List.replicate (44 - k) 0
theorem bodyK_len {l : List UInt8} (hl : l.length = 64) {k : Nat} (hk : k ≤ 44) : (bodyK l k).length = 44 := by
  rw [bodyK, List.length_append, List.length_take, List.length_drop, List.length_replicate, hl]; omega
theorem bodyK_set {l : List UInt8} (hl : l.length = 64) {k : Nat} (hk : k < 44) : (bodyK l k).set k (l.getD (16 + k) 0) = bodyK l (k + 1) := by
  have h1 : ((l.drop 16).take k).length = k := by rw [List.length_take, List.length_drop, hl]; omega
  have h2 : (l.drop 16).take (k + 1) = (l.drop 16).take k ++ [l.getD (16 + k) 0] := by
    rw [List.take_add_one, List.getElem?_drop]
    simp [show 16 + k < l.length by omega]
  rw [bodyK, bodyK, h2, List.set_append_right _ _ (by omega), h1, Nat.sub_self, List.append_assoc]
  congr 1
  rw [show 44 - k = (44 - (k + 1)) + 1 by omega, List.replicate_succ, List.set_cons_zero]
  rfl
theorem bodyK_full {l : List UInt8} : bodyK l 44 = (l.drop 16).take 44 := by rw [bodyK]; simp
theorem ShB.setByte {w : World} {b : Nat} {s : Sh} (h : ShB w b s) {j : Nat} (hj : j < 44) (hb : s.body.length = 44) (u : UInt8) : ShB (w.setCell ⟨b, 5 + j, none⟩ (.int .u8 (u.toNat : Int))) b ⟨s.kind, s.idx, s.place, s.gen, s.size, s.body.set j u⟩ ∧ Fr (fun x => x = b) w (w.setCell ⟨b, 5 + j, none⟩ (.int .u8 (u.toNat : Int))) := by
  refine ⟨?_, (Fr.refl (fun x => x = b) _).setCell (p := ⟨b, 5 + j, none⟩) (.inr rfl) _⟩
  have := heap_setCell_same w b (5 + j) _ _ (.int .u8 (u.toNat : Int)) h
  rw [ShB, this]
  congr 2
  rw [List.setIfInBounds_toArray]
  congr 1
  rw [Sh.cs, Sh.cs, pad44_eq hb, pad44_eq (by rw [List.length_set]; exact hb), Nat.add_comm 5 j]
  simp only [List.set_cons_succ]
  rw [cells, cells, List.map_set]
  rfl
/-- What lies behind the region that makes the shard. -/
def AtSh (w1 : World) (s : Sh) (v : Value) (wx : World) : Prop := ∃ b, v = .pointer (some ⟨b, 0, none⟩) ∧ ShB wx b s ∧ Below w1.heap.size w1 wx ∧ w1.heap.size ≤ b

set_option maxRecDepth 20000
set_option maxHeartbeats 1600000
theorem step_built11 {ρ : Operand → Value} {o : Oper} {a b c d f : Operand} {w : World} {k i : UInt8} {p g z : Nat} (ho : o.op = .build 26 #[(0, a), (1, b), (2, c), (3, d), (4, f)]) (h0 : ρ a = .int .u8 (k.toNat : Int)) (h1 : ρ b = .int .u8 (i.toNat : Int)) (h2 : ρ c = .int .u16 (p : Int)) (h3 : ρ d = .int .u64 (g : Int)) (h4 : ρ f = .int .u16 (z : Int)) :
    (execOp ρ o).run Tryd.prog w = .ok (.value (.agg (Sh.cs ⟨k, i, p, g, z, Sh.zero.body⟩).toArray)) w := by
  have h := run_build w 26 #[(0, .int .u8 (k.toNat : Int)), (1, .int .u8 (i.toNat : Int)), (2, .int .u16 (p : Int)), (3, .int .u64 (g : Int)), (4, .int .u16 (z : Int))] _ (built_head (k.toNat : Int) (i.toNat : Int) (p : Int) (g : Int) (z : Int))
  unfold execOp
  simp [ho, h0, h1, h2, h3, h4, h, Result.andThen]
  rfl
theorem rnumber_at (A : Option Addr) (n c : Nat) (l : List UInt8) (a m : Nat) (w : World) (h : Sl w 1 A n c (cells l)) (h1 : 1 ≤ m) (h8 : m ≤ 8) (ha : a + m ≤ n) (z k : Int) (hz : z = (a : Int)) (hk : k = (m : Int)) (x : Nat) (hx : leVal ((l.drop a).take m) = x) :
    Calls Tryd.prog 24 #[.slice A n c, .int .i64 z, .int .i64 k] w fun e w' => e = .returned (.int .u64 (x : Int)) ∧ w = w' := by
  subst hx
  exact rnumber_any A n c l a m w h h1 h8 ha z k hz hk
theorem rsget_short (A : Option Addr) (n c : Nat) (hn : n ≠ 64) (w : World) : Calls Tryd.prog 14 #[.slice A n c] w fun e w' => e = .returned (.tuple #[.agg (Sh.cs Sh.zero).toArray, .int .i64 2]) ∧ Below w.heap.size w w' := by
  have hz := zero_shard
  have hbz := build_zero
  have hd : ((n : Int) != 64) = true := by rw [bne_iff_ne]; omega
  have hb : Below w.heap.size w (w.alloc (.cells (Sh.cs Sh.zero).toArray 26)) := (Below.refl _ _).alloc (Nat.le_refl _) _
  have Hb := Lib.hid hb; clear hb hn
  have HSZ := Lib.hid (size_shard_a Sh.zero)
  have HON := Lib.hid (all_oneCell_toArray Sh.zero.cs_one)
  go_enter Tryd.func14, Tryd.ntmps14
  go_wp2_with (refine at_none11 ?_; refine wpList_store_new (o := ⟨none, _, _, _, _, _⟩) rfl 26 (.tmp 2) (.tmp 9) rfl w _ (Sh.cs Sh.zero).toArray 26 rfl rfl HSZ.out rfl HON.out ?_)
  refine bodyPost_ret (results_cell_pair Tryd.results14 _ _ w.heap.size 26 _ (0, 0) _ rfl (heap_alloc_new w _) Tryd.underlying26 rfl HSZ.out) rfl ⟨rfl, Hb.out⟩
theorem rsget_long (A : Option Addr) (c : Nat) (l : List UInt8) (hl : l.length = 64) (w : World) (h : Sl w 1 A 64 c (cells l)) : Calls Tryd.prog 14 #[.slice A 64 c] w fun e w' => e = .returned (.tuple #[.agg (getS l).cs.toArray, .int .i64 (getE l : Int)]) ∧ Below w.heap.size w w' := by
  have hcap := h.cap
  have htop := h.top
  have hzv := zero_shard
  have hbz := build_zero
  obtain ⟨bA, oA, rfl, hcell⟩ := h.at_ (k := 0) (by decide)
  obtain ⟨w0, hw0⟩ : ∃ w0, w0 = w.alloc (.cells (Sh.cs Sh.zero).toArray 26) := ⟨_, rfl⟩
  have hb0 : Below w.heap.size w w0 := by rw [hw0]; exact (Below.refl _ _).alloc (Nat.le_refl _) _
  have hz0 : w0.heap.size = w.heap.size + 1 := by rw [hw0]; simp
  have hbr : w0.heap[w.heap.size]? = some (.cells (Sh.cs Sh.zero).toArray 26 (0, 0)) := by rw [hw0]; exact heap_alloc_new w _
  have HB0 := Lib.hid hb0; have HZ0 := Lib.hid hz0; have HBR := Lib.hid hbr; have Hw0 := Lib.hid hw0
  have HSB := Lib.hid (show Sl w0.drew 1 (some ⟨bA, oA, none⟩) 64 c (cells l) from (h.below hb0 (Nat.le_refl _)).drew)
  have hs60 := (h.below hb0 (Nat.le_refl _)).drew.sub1 0 60 c (by decide) (by decide) (by omega) htop
  rw [List.drop_zero, show (some (⟨bA, oA, none⟩ : Addr)).map (·.add 0) = some ⟨bA, oA, none⟩ by simp [Addr.add]] at hs60
  have HS60 := Lib.hid hs60
  have HCELL := Lib.hid (show ∀ (W : World), Below w.heap.size w W → ∀ j, j < 64 → W.cell? ⟨bA, oA + j, none⟩ = some (.int .u8 ((l.getD j 0).toNat : Int)) from fun W hW j hj => by
    have h1 := hcell j (.int .u8 ((l.getD j 0).toNat : Int)) (by
      have : j < l.length := by omega
      rw [cells_get l j this]
      simp [bv, this])
    exact (hW.cell (World.block_lt_of_cell? w _ h1)).trans h1)
  have HL := Lib.hid hl
  have hc60 : (60 : Int) ≤ (c : Int) := by omega
  have HZS := Lib.hid (size_shard_a Sh.zero)
  have HZO := Lib.hid (all_oneCell_toArray Sh.zero.cs_one)
  have hclen : (closed (l.take 60)).length = 64 := by rw [closed_len, List.length_take, hl]; rfl
  have HCL := Lib.hid hclen
  clear hb0 hz0 hbr hw0 h hs60 hcell hl hclen
  by_cases hsum : closed (l.take 60) = l
  · have hz : ((bstr (closed (l.take 60))).toList == (bstr l).toList) = true := by rw [bstr_toList, bstr_toList, hsum]; simp
    have HSM := Lib.hid ((closed_iff HL.out).1 hsum)
    clear hsum
    obtain ⟨k0, hk0⟩ : ∃ u, u = l.getD 0 0 := ⟨_, rfl⟩
    obtain ⟨a14, h14⟩ : ∃ u, u = l.getD 14 0 := ⟨_, rfl⟩
    obtain ⟨a15, h15⟩ : ∃ u, u = l.getD 15 0 := ⟨_, rfl⟩
    have hkn : (shardOf l).kn = (decide (1 ≤ k0.toNat) && decide (k0.toNat ≤ 4)) := by rw [hk0]; rfl
    have hnn : leVal ((l.drop 14).take 2) = a14.toNat + 256 * a15.toNat := by rw [drop_two (by rw [HL.out]; decide), h14, h15]; simp [leVal]
    have lk0 := k0.toNat_lt
    have HK0 := Lib.hid hk0; have H14 := Lib.hid h14; have H15 := Lib.hid h15; have HKN := Lib.hid hkn; have HNN := Lib.hid hnn
    clear hk0 h14 h15 hkn hnn
    have l14 := a14.toNat_lt
    have l15 := a15.toNat_lt
    go_enter Tryd.func14, Tryd.ntmps14
    go_wp2_with (rw [← Hw0.out])
    refine wp_region_held_drew (S := fun w' => Fr (fun _ => False) w0.drew w') (by kernel_rfl) (Fr.refl _ _) (fun hHeld => ?_)
    clear hHeld
    refine wpAnyH_take (i := 0) (oi := ⟨some 10, _, _, _, _, _⟩) (v := ?vb0) rfl (by kernel_rfl) (by kernel_rfl) (by kernel_rfl) (fun _ _ _ h => h) (Or.inl ⟨by rfl, ?yb0⟩) (Fr.refl _ _) ?rb0
    case yb0 =>
      intro wq hSw
      (try dsimp only at hSw)
      first | (go_simp; done) | (go_simp; with_reducible rfl)
    try simp only [Act.put, List.setIfInBounds_toArray, List.set_cons_zero, List.set_cons_succ]
    refine wpAnyH_take (i := 1) (oi := ⟨some 11, _, _, _, _, _⟩) (v := ?vb1) rfl (by kernel_rfl) (by kernel_rfl) (by kernel_rfl) (fun _ _ _ h => h) (Or.inl ⟨by rfl, ?yb1⟩) (Fr.refl _ _) ?rb1
    case yb1 =>
      intro wq hSw
      (try dsimp only at hSw)
      first | (go_simp; done) | (go_simp; with_reducible rfl)
    try simp only [Act.put, List.setIfInBounds_toArray, List.set_cons_zero, List.set_cons_succ]
    refine wpAnyH_take (i := 4) (oi := ⟨some 14, _, _, _, _, _⟩) (v := ?vb4) rfl (by kernel_rfl) (by kernel_rfl) (by kernel_rfl) (fun _ _ _ h => h) (Or.inl ⟨by rfl, ?yb4⟩) (Fr.refl _ _) ?rb4
    case yb4 =>
      intro wq hSw
      (try dsimp only at hSw)
      first | (go_simp; done) | (go_simp; with_reducible rfl)
    try simp only [Act.put, List.setIfInBounds_toArray, List.set_cons_zero, List.set_cons_succ]
    refine wpAnyH_take (i := 5) (oi := ⟨some 15, _, _, _, _, _⟩) (v := ?vb5) rfl (by kernel_rfl) (by kernel_rfl) (by kernel_rfl) (fun _ _ _ h => h) (Or.inl ⟨by rfl, ?yb5⟩) (Fr.refl _ _) ?rb5
    case yb5 =>
      intro wq hSw
      (try dsimp only at hSw)
      have kk := str_of (HSB.out.fr hSw (fun _ _ _ _ h => h))
      first | (go_simp; done) | (go_simp; with_reducible rfl)
    try simp only [Act.put, List.setIfInBounds_toArray, List.set_cons_zero, List.set_cons_succ]
    refine wpAnyH_ready (rs := [2]) (by kernel_rfl) (by simp) ?_
    refine AllReadyH.cons (o := ⟨some 12, _, _, _, _, _⟩) rfl (fun K hK => ?_) AllReadyH.nil
    go_simp
    refine (rclosed_any (some ⟨bA, oA, none⟩) 60 c (l.take 60) w0.drew HS60.out (by decide)).mono ?_
    rintro e w1 ⟨A1, n1, c1, rfl, ho, hb⟩
    obtain rfl : n1 = 64 := by
      have h1 := ho.sl.len
      rw [cells_length, HCL.out] at h1
      omega
    have hfr := Fr.of_below (S := fun _ => False) hb
    have S1 := Lib.hid ho.sl
    have F1 := Lib.hid ((Below.drew (Below.refl w0.heap.size w0)).trans hb)
    clear ho hb
    go_wp2_with fail
    refine hK.out _ _ hfr (fun hHeld => ?_)
    clear hK K hHeld
    try simp only [Act.put, List.setIfInBounds_toArray, List.set_cons_zero, List.set_cons_succ]
    refine wpAnyH_re (S' := fun w' => Fr (fun _ => False) w1 w') (fun w' h => hfr.trans h) ?_
    clear hfr
    refine wpAnyH_take (i := 3) (oi := ⟨some 13, _, _, _, _, _⟩) (v := ?vb3) rfl (by kernel_rfl) (by kernel_rfl) (by kernel_rfl) (fun _ _ _ h => h) (Or.inl ⟨by rfl, ?yb3⟩) (Fr.refl _ _) ?rb3
    case yb3 =>
      intro wq hSw
      (try dsimp only at hSw)
      have kk := str_of (S1.out.fr hSw (fun _ _ _ _ h => h))
      first | (go_simp; done) | (go_simp; with_reducible rfl)
    try simp only [Act.put, List.setIfInBounds_toArray, List.set_cons_zero, List.set_cons_succ]
    refine wpAnyH_take (i := 6) (oi := ⟨some 16, _, _, _, _, _⟩) (v := ?vb6) rfl (by kernel_rfl) (by kernel_rfl) (by kernel_rfl) (fun _ _ _ h => h) (Or.inl ⟨by rfl, ?yb6⟩) (Fr.refl _ _) ?rb6
    case yb6 =>
      intro wq hSw
      (try dsimp only at hSw)
      first | (go_simp; done) | (go_simp; with_reducible rfl)
    try simp only [Act.put, List.setIfInBounds_toArray, List.set_cons_zero, List.set_cons_succ]
    refine wpAnyH_done (by kernel_rfl) ?_ _
    have F1w := Lib.hid (HB0.out.trans (F1.out.mono (by have := HZ0.out; omega)))
    have BRX := Lib.hid ((F1.out.block _ (by have := HZ0.out; omega)).trans HBR.out)
    have c0 : w1.cell? ⟨bA, oA, none⟩ = some (.int .u8 (k0.toNat : Int)) := by rw [HK0.out]; exact HCELL.out w1 F1w.out 0 (by decide)
    have c14 : w1.cell? ⟨bA, oA + 14, none⟩ = some (.int .u8 (a14.toNat : Int)) := by rw [H14.out]; exact HCELL.out w1 F1w.out 14 (by decide)
    have c15 : w1.cell? ⟨bA, oA + 15, none⟩ = some (.int .u8 (a15.toNat : Int)) := by rw [H15.out]; exact HCELL.out w1 F1w.out 15 (by decide)
    by_cases q1 : 1 ≤ k0.toNat
    · have d1 : ¬ (k0.toNat : Int) < 1 := by omega
      by_cases q2 : k0.toNat ≤ 4
      · have d2 : ¬ (k0.toNat : Int) > 4 := by omega
        by_cases q3 : a14.toNat = 0
        · have d3 : ((a14.toNat : Int) != 0) = false := by rw [q3]; rfl
          by_cases q4 : a15.toNat = 0
          · have d4 : ((a15.toNat : Int) != 0) = false := by rw [q4]; rfl
            have HE := Lib.hid (getE_fine HL.out HSM.out (by rw [HKN.out, decide_eq_true q1, decide_eq_true q2]; rfl) (by rw [HNN.out, q3, q4]))
            have HG := Lib.hid (getS_fine HE.out)
            clear q1 q2 q3 q4
            go_wp2_with fail
            clear c14 c15 d3 d4 d1 d2 hz
            obtain ⟨k1, hk1⟩ : ∃ u, u = l.getD 1 0 := ⟨_, rfl⟩
            obtain ⟨x2, hx2⟩ : ∃ x, leVal ((l.drop 2).take 2) = x := ⟨_, rfl⟩
            obtain ⟨x3, hx3⟩ : ∃ x, leVal ((l.drop 4).take 8) = x := ⟨_, rfl⟩
            obtain ⟨x4, hx4⟩ : ∃ x, leVal ((l.drop 12).take 2) = x := ⟨_, rfl⟩
            have y2 : x2 < 65536 := by rw [← hx2]; exact leVal_bound l 2 2 HL.out (by decide)
            have y3 : x3 < 18446744073709551616 := by rw [← hx3]; exact leVal_bound l 4 8 HL.out (by decide)
            have y4 : x4 < 65536 := by rw [← hx4]; exact leVal_bound l 12 2 HL.out (by decide)
            have e2 : IntKind.u16.wrap (x2 : Int) = (x2 : Int) := by rw [IntKind.wrap_u16]; omega
            have e4 : IntKind.u16.wrap (x4 : Int) = (x4 : Int) := by rw [IntKind.wrap_u16]; omega
            have hsh : shardOf l = ⟨k0, k1, x2, x3, x4, (l.drop 16).take 44⟩ := by rw [shardOf, ← HK0.out, ← hk1, hx2, hx3, hx4]
            have C0 := Lib.hid c0
            have C1 := Lib.hid (show w1.cell? ⟨bA, oA + 1, none⟩ = some (.int .u8 (k1.toNat : Int)) by rw [hk1]; exact HCELL.out w1 F1w.out 1 (by decide))
            have HSH := Lib.hid hsh
            have HX2 := Lib.hid hx2; have HX3 := Lib.hid hx3; have HX4 := Lib.hid hx4
            have hset : (((((Sh.zero.cs.set 0 (.int .u8 (k0.toNat : Int))).set 1 (.int .u8 (k1.toNat : Int))).set 2 (.int .u16 (x2 : Int))).set 3 (.int .u64 (x3 : Int))).set 4 (.int .u16 (x4 : Int))) = Sh.cs ⟨k0, k1, x2, x3, x4, Sh.zero.body⟩ := by simp only [Sh.cs, Sh.zero, List.set_cons_zero, List.set_cons_succ]
            have HSET := Lib.hid hset
            have HSZ := Lib.hid (size_shard_a ⟨k0, k1, x2, x3, x4, Sh.zero.body⟩)
            have HON := Lib.hid (all_oneCell_toArray (Sh.cs_one ⟨k0, k1, x2, x3, x4, Sh.zero.body⟩))
            have HSS := Lib.hid (show (Sh.cs Sh.zero).toArray.size = (Sh.cs ⟨k0, k1, x2, x3, x4, Sh.zero.body⟩).toArray.size by rw [List.size_toArray, List.size_toArray, Sh.cs_len, Sh.cs_len])
            have HSLA := Lib.hid (show Sl w1 1 (some ⟨bA, oA, none⟩) 64 c (cells l) from ⟨by rw [cells_length, HL.out], hcap, htop, fun j u hu => ⟨bA, oA, rfl, by
              have hj : j < l.length := by
                rcases Nat.lt_or_ge j l.length with h' | h'
                · exact h'
                · rw [List.getElem?_eq_none (by rw [cells_length]; exact h')] at hu; cases hu
              rw [cells_get l j hj] at hu
              rw [HCELL.out w1 F1w.out j (by rw [← HL.out]; exact hj), ← hu]
              simp [bv, hj]⟩⟩)
            have NB := Lib.hid (show ¬ (fun b => w1.heap.size ≤ b) bA by have := World.block_lt_of_cell? _ _ C0.out; show ¬ w1.heap.size ≤ bA; have h2 : bA < w1.heap.size := this; omega)
            clear hsh hk1 hx2 hx3 hx4 hset c0
            go_cut [4] (fun v wx => AtSh w1 ⟨k0, k1, x2, x3, x4, Sh.zero.body⟩ v wx)
            case first =>
              refine wp_region_held_drew (S := fun w' => Fr (fun b => w1.heap.size ≤ b) w1 w') (by kernel_rfl) (Fr.drew (Fr.refl _ _)) (fun hHeld => ?_)
              clear hHeld
              have hHeld : Fr (fun b => w1.heap.size ≤ b) w1 w1.drew := Fr.drew (Fr.refl _ _)
              have hz_0 : w1.heap.size ≤ w1.drew.heap.size := Nat.le_refl _
              obtain ⟨v_1, hw⟩ : ∃ v_1, v_1 = w1.drew := ⟨_, rfl⟩
              rw [← hw] at hHeld hz_0  ⊢
              clear hw
              refine wpAnyH_take (i := 0) (oi := ⟨some 41, _, _, _, _, _⟩) (v := ?vg0_2) rfl (by kernel_rfl) (by kernel_rfl) (by kernel_rfl) (fun _ _ _ h => h) (Or.inl ⟨by rfl, ?yg0_2⟩) hHeld ?rg0_2
              case yg0_2 =>
                intro wq hSw
                (try dsimp only at hSw)
                first | (go_simp; done) | (go_simp; with_reducible rfl)
              try simp only [Act.put, List.setIfInBounds_toArray, List.set_cons_zero, List.set_cons_succ]
              refine wpAnyH_take (i := 1) (oi := ⟨some 42, _, _, _, _, _⟩) (v := ?vg1_3) rfl (by kernel_rfl) (by kernel_rfl) (by kernel_rfl) (fun _ _ _ h => h) (Or.inl ⟨by rfl, ?yg1_3⟩) hHeld ?rg1_3
              case yg1_3 =>
                intro wq hSw
                (try dsimp only at hSw)
                first | (go_simp; done) | (go_simp; with_reducible rfl)
              try simp only [Act.put, List.setIfInBounds_toArray, List.set_cons_zero, List.set_cons_succ]
              refine wpAnyH_take (i := 2) (oi := ⟨some 43, _, _, _, _, _⟩) (v := ?vg2_4) rfl (by kernel_rfl) (by kernel_rfl) (by kernel_rfl) (fun _ _ _ h => h) (Or.inl ⟨by rfl, ?yg2_4⟩) hHeld ?rg2_4
              case yg2_4 =>
                intro wq hSw
                (try dsimp only at hSw)
                have hq := hSw.cell_some C0.out NB.out
                first | (go_simp; done) | (go_simp; with_reducible rfl)
              try simp only [Act.put, List.setIfInBounds_toArray, List.set_cons_zero, List.set_cons_succ]
              refine wpAnyH_take (i := 3) (oi := ⟨some 44, _, _, _, _, _⟩) (v := ?vg3_5) rfl (by kernel_rfl) (by kernel_rfl) (by kernel_rfl) (fun _ _ _ h => h) (Or.inl ⟨by rfl, ?yg3_5⟩) hHeld ?rg3_5
              case yg3_5 =>
                intro wq hSw
                (try dsimp only at hSw)
                first | (go_simp; done) | (go_simp; with_reducible rfl)
              try simp only [Act.put, List.setIfInBounds_toArray, List.set_cons_zero, List.set_cons_succ]
              refine wpAnyH_take (i := 4) (oi := ⟨some 45, _, _, _, _, _⟩) (v := ?vg4_6) rfl (by kernel_rfl) (by kernel_rfl) (by kernel_rfl) (fun _ _ _ h => h) (Or.inl ⟨by rfl, ?yg4_6⟩) hHeld ?rg4_6
              case yg4_6 =>
                intro wq hSw
                (try dsimp only at hSw)
                first | (go_simp; done) | (go_simp; with_reducible rfl)
              try simp only [Act.put, List.setIfInBounds_toArray, List.set_cons_zero, List.set_cons_succ]
              refine wpAnyH_take (i := 5) (oi := ⟨some 46, _, _, _, _, _⟩) (v := ?vg5_7) rfl (by kernel_rfl) (by kernel_rfl) (by kernel_rfl) (fun _ _ _ h => h) (Or.inl ⟨by rfl, ?yg5_7⟩) hHeld ?rg5_7
              case yg5_7 =>
                intro wq hSw
                (try dsimp only at hSw)
                have hq := hSw.cell_some C1.out NB.out
                first | (go_simp; done) | (go_simp; with_reducible rfl)
              try simp only [Act.put, List.setIfInBounds_toArray, List.set_cons_zero, List.set_cons_succ]
              refine wpAnyH_take (i := 6) (oi := ⟨some 47, _, _, _, _, _⟩) (v := ?vg6_8) rfl (by kernel_rfl) (by kernel_rfl) (by kernel_rfl) (fun _ _ _ h => h) (Or.inl ⟨by rfl, ?yg6_8⟩) hHeld ?rg6_8
              case yg6_8 =>
                intro wq hSw
                (try dsimp only at hSw)
                first | (go_simp; done) | (go_simp; with_reducible rfl)
              try simp only [Act.put, List.setIfInBounds_toArray, List.set_cons_zero, List.set_cons_succ]
              refine wpAnyH_take (i := 9) (oi := ⟨some 50, _, _, _, _, _⟩) (v := ?vg9_9) rfl (by kernel_rfl) (by kernel_rfl) (by kernel_rfl) (fun _ _ _ h => h) (Or.inl ⟨by rfl, ?yg9_9⟩) hHeld ?rg9_9
              case yg9_9 =>
                intro wq hSw
                (try dsimp only at hSw)
                first | (go_simp; done) | (go_simp; with_reducible rfl)
              try simp only [Act.put, List.setIfInBounds_toArray, List.set_cons_zero, List.set_cons_succ]
              refine wpAnyH_take (i := 11) (oi := ⟨some 52, _, _, _, _, _⟩) (v := ?vg11_10) rfl (by kernel_rfl) (by kernel_rfl) (by kernel_rfl) (fun _ _ _ h => h) (Or.inl ⟨by rfl, ?yg11_10⟩) hHeld ?rg11_10
              case yg11_10 =>
                intro wq hSw
                (try dsimp only at hSw)
                first | (go_simp; done) | (go_simp; with_reducible rfl)
              try simp only [Act.put, List.setIfInBounds_toArray, List.set_cons_zero, List.set_cons_succ]
              refine wpAnyH_ready (rs := [7, 15]) (by kernel_rfl) (by simp) ?_
              refine AllReadyH.cons (o := ⟨some 48, _, _, _, _, _⟩) rfl (fun K hK => ?_) (AllReadyH.cons (o := ⟨some 4, _, _, _, _, _⟩) rfl (fun K hK => ?_) (AllReadyH.nil))
              · go_simp
                have hsl := HSLA.out.fr hHeld (fun b o h0 hA => by injection hA with hA; injection hA with hA _; rw [← hA]; exact NB.out)
                refine (rnumber_at (some ⟨bA, oA, none⟩) 64 c l 2 2 v_1 hsl (by decide) (by decide) (by decide) _ _ rfl rfl x2 HX2.out).mono ?_
                clear hsl; rintro e wN ⟨rfl, hw⟩
                obtain rfl : v_1 = wN := hw
                have hfN := Fr.refl (fun b => w1.heap.size ≤ b) v_1
                go_wp2_with fail
                have hHeld := hHeld.trans hfN
                have hz_11 := hfN.size
                refine hK.out _ _ hHeld (fun _ => ?_)
                clear hK K hfN
                try simp only [Act.put, List.setIfInBounds_toArray, List.set_cons_zero, List.set_cons_succ]
                refine wpAnyH_take (i := 8) (oi := ⟨some 49, _, _, _, _, _⟩) (v := ?vg8_12) rfl (by kernel_rfl) (by kernel_rfl) (by kernel_rfl) (fun _ _ _ h => h) (Or.inl ⟨by rfl, ?yg8_12⟩) hHeld ?rg8_12
                case yg8_12 =>
                  intro wq hSw
                  (try dsimp only at hSw)
                  first | (go_simp; done) | (go_simp; with_reducible rfl)
                try simp only [Act.put, List.setIfInBounds_toArray, List.set_cons_zero, List.set_cons_succ]
                refine wpAnyH_ready (rs := [10, 15]) (by kernel_rfl) (by simp) ?_
                refine AllReadyH.cons (o := ⟨some 51, _, _, _, _, _⟩) rfl (fun K hK => ?_) (AllReadyH.cons (o := ⟨some 4, _, _, _, _, _⟩) rfl (fun K hK => ?_) (AllReadyH.nil))
                · go_simp
                  have hsl := HSLA.out.fr hHeld (fun b o h0 hA => by injection hA with hA; injection hA with hA _; rw [← hA]; exact NB.out)
                  refine (rnumber_at (some ⟨bA, oA, none⟩) 64 c l 4 8 v_1 hsl (by decide) (by decide) (by decide) _ _ rfl rfl x3 HX3.out).mono ?_
                  clear hsl; rintro e wN ⟨rfl, hw⟩
                  obtain rfl : v_1 = wN := hw
                  have hfN := Fr.refl (fun b => w1.heap.size ≤ b) v_1
                  go_wp2_with fail
                  have hHeld := hHeld.trans hfN
                  have hz_13 := hfN.size
                  refine hK.out _ _ hHeld (fun _ => ?_)
                  clear hK K hfN
                  try simp only [Act.put, List.setIfInBounds_toArray, List.set_cons_zero, List.set_cons_succ]
                  refine wpAnyH_ready (rs := [12, 15]) (by kernel_rfl) (by simp) ?_
                  refine AllReadyH.cons (o := ⟨some 53, _, _, _, _, _⟩) rfl (fun K hK => ?_) (AllReadyH.cons (o := ⟨some 4, _, _, _, _, _⟩) rfl (fun K hK => ?_) (AllReadyH.nil))
                  · go_simp
                    have hsl := HSLA.out.fr hHeld (fun b o h0 hA => by injection hA with hA; injection hA with hA _; rw [← hA]; exact NB.out)
                    refine (rnumber_at (some ⟨bA, oA, none⟩) 64 c l 12 2 v_1 hsl (by decide) (by decide) (by decide) _ _ rfl rfl x4 HX4.out).mono ?_
                    clear hsl; rintro e wN ⟨rfl, hw⟩
                    obtain rfl : v_1 = wN := hw
                    have hfN := Fr.refl (fun b => w1.heap.size ≤ b) v_1
                    go_wp2_with fail
                    have hHeld := hHeld.trans hfN
                    have hz_14 := hfN.size
                    refine hK.out _ _ hHeld (fun _ => ?_)
                    clear hK K hfN
                    try simp only [Act.put, List.setIfInBounds_toArray, List.set_cons_zero, List.set_cons_succ]
                    refine wpAnyH_take (i := 13) (oi := ⟨some 54, _, _, _, _, _⟩) (v := ?vg13_15) rfl (by kernel_rfl) (by kernel_rfl) (by kernel_rfl) (fun _ _ _ h => h) (Or.inl ⟨by rfl, ?yg13_15⟩) hHeld ?rg13_15
                    case yg13_15 =>
                      intro wq hSw
                      (try dsimp only at hSw)
                      first | (go_simp; done) | (go_simp; with_reducible rfl)
                    try simp only [Act.put, List.setIfInBounds_toArray, List.set_cons_zero, List.set_cons_succ]
                    refine wpAnyH_take (i := 14) (oi := ⟨some 55, _, _, _, _, _⟩) (v := (.agg (Sh.cs ⟨k0, k1, x2, x3, x4, Sh.zero.body⟩).toArray)) rfl (by kernel_rfl) (by kernel_rfl) (by kernel_rfl) (fun _ _ _ h => h) (Or.inl ⟨by rfl, ?yg14_16⟩) hHeld ?rg14_16
                    case yg14_16 =>
                      intro wq hSw
                      exact step_built11 (a := .tmp 43) (b := .tmp 46) (c := .tmp 49) (d := .tmp 51) (f := .tmp 54) (k := k0) (i := k1) (p := x2) (g := x3) (z := x4) rfl rfl rfl rfl rfl rfl
                    try simp only [Act.put, List.setIfInBounds_toArray, List.set_cons_zero, List.set_cons_succ]
                    refine wpAnyH_ready (rs := [15]) (by kernel_rfl) (by simp) ?_
                    refine AllReadyH.cons (o := ⟨some 4, _, _, _, _, _⟩) rfl (fun K hK => ?_) (AllReadyH.nil)
                    go_simp
                    obtain ⟨bs, hbs⟩ : ∃ b, b = v_1.heap.size := ⟨_, rfl⟩
                    obtain ⟨v_17, hw⟩ : ∃ v, v = v_1.alloc (.cells (Sh.cs Sh.zero).toArray 26) := ⟨_, rfl⟩
                    rw [← hw, ← hbs]
                    have HXB := Lib.hid (show ShB v_17 bs Sh.zero by rw [hw, hbs]; exact ShB.new v_1 Sh.zero)
                    have HBS := Lib.hid (show w1.heap.size ≤ bs by rw [hbs]; exact hHeld.size)
                    have hfN : Fr (fun b => w1.heap.size ≤ b) v_1 v_17 := by rw [hw]; exact Fr.of_below ((Below.refl _ _).alloc (Nat.le_refl _) _)
                    clear hw hbs
                    have hHeld := hHeld.trans hfN
                    have hz_18 := hfN.size
                    refine hK.out _ _ hHeld (fun _ => ?_)
                    clear hK K hfN
                    try simp only [Act.put, List.setIfInBounds_toArray, List.set_cons_zero, List.set_cons_succ]
                    refine wpAnyH_ready (rs := [16]) (by kernel_rfl) (by simp) ?_
                    refine AllReadyH.cons (o := ⟨none, _, _, _, _, _⟩) rfl (fun K hK => ?_) (AllReadyH.nil)
                    refine wp_store_row (o := ⟨none, _, _, _, _, _⟩) 26 (.tmp 4) (.tmp 55) rfl bs (Sh.cs ⟨k0, k1, x2, x3, x4, Sh.zero.body⟩).toArray rfl rfl 26 _ HXB.out HSZ.out HSS.out HON.out ?_
                    obtain ⟨v_19, hw⟩ : ∃ v, v = v_17.setRow bs (Sh.cs ⟨k0, k1, x2, x3, x4, Sh.zero.body⟩).toArray := ⟨_, rfl⟩
                    rw [← hw]
                    have HXC := Lib.hid (show ShB v_19 bs ⟨k0, k1, x2, x3, x4, Sh.zero.body⟩ by rw [hw]; exact setRow_heap _ _ _ _ _ _ HXB.out)
                    have hfN : Fr (fun b => w1.heap.size ≤ b) v_17 v_19 := by rw [hw]; exact ⟨rfl, rfl, rfl, by simp, fun k hk hs => setRow_other _ _ _ _ (fun e => hs (by rw [e]; exact HBS.out))⟩
                    clear hw
                    have hHeld := hHeld.trans hfN
                    have hz_20 := hfN.size
                    refine hK.out _ _ hHeld (fun _ => ?_)
                    clear hK K hfN
                    try simp only [Act.put]
                    refine wpAnyH_done (by kernel_rfl) ?_ _
                    have HH := Lib.hid (hHeld.below (Nat.le_refl w1.heap.size) (fun b hb => hb))
                    clear hHeld
                    go_wp2_with fail
                    go_meet
                    case rel => exact ⟨bs, rfl, HXC.out, HH.out, HBS.out⟩
                  · go_simp
                    obtain ⟨bs, hbs⟩ : ∃ b, b = v_1.heap.size := ⟨_, rfl⟩
                    obtain ⟨v_21, hw⟩ : ∃ v, v = v_1.alloc (.cells (Sh.cs Sh.zero).toArray 26) := ⟨_, rfl⟩
                    rw [← hw, ← hbs]
                    have HXB := Lib.hid (show ShB v_21 bs Sh.zero by rw [hw, hbs]; exact ShB.new v_1 Sh.zero)
                    have HBS := Lib.hid (show w1.heap.size ≤ bs by rw [hbs]; exact hHeld.size)
                    have hfN : Fr (fun b => w1.heap.size ≤ b) v_1 v_21 := by rw [hw]; exact Fr.of_below ((Below.refl _ _).alloc (Nat.le_refl _) _)
                    clear hw hbs
                    have hHeld := hHeld.trans hfN
                    have hz_22 := hfN.size
                    refine hK.out _ _ hHeld (fun _ => ?_)
                    clear hK K hfN
                    try simp only [Act.put, List.setIfInBounds_toArray, List.set_cons_zero, List.set_cons_succ]
                    refine wpAnyH_ready (rs := [12]) (by kernel_rfl) (by simp) ?_
                    refine AllReadyH.cons (o := ⟨some 53, _, _, _, _, _⟩) rfl (fun K hK => ?_) (AllReadyH.nil)
                    go_simp
                    have hsl := HSLA.out.fr hHeld (fun b o h0 hA => by injection hA with hA; injection hA with hA _; rw [← hA]; exact NB.out)
                    refine (rnumber_at (some ⟨bA, oA, none⟩) 64 c l 12 2 v_21 hsl (by decide) (by decide) (by decide) _ _ rfl rfl x4 HX4.out).mono ?_
                    clear hsl; rintro e wN ⟨rfl, hw⟩
                    obtain rfl : v_21 = wN := hw
                    have hfN := Fr.refl (fun b => w1.heap.size ≤ b) v_21
                    go_wp2_with fail
                    have hHeld := hHeld.trans hfN
                    have hz_23 := hfN.size
                    refine hK.out _ _ hHeld (fun _ => ?_)
                    clear hK K hfN
                    try simp only [Act.put, List.setIfInBounds_toArray, List.set_cons_zero, List.set_cons_succ]
                    refine wpAnyH_take (i := 13) (oi := ⟨some 54, _, _, _, _, _⟩) (v := ?vg13_24) rfl (by kernel_rfl) (by kernel_rfl) (by kernel_rfl) (fun _ _ _ h => h) (Or.inl ⟨by rfl, ?yg13_24⟩) hHeld ?rg13_24
                    case yg13_24 =>
                      intro wq hSw
                      (try dsimp only at hSw)
                      first | (go_simp; done) | (go_simp; with_reducible rfl)
                    try simp only [Act.put, List.setIfInBounds_toArray, List.set_cons_zero, List.set_cons_succ]
                    refine wpAnyH_take (i := 14) (oi := ⟨some 55, _, _, _, _, _⟩) (v := (.agg (Sh.cs ⟨k0, k1, x2, x3, x4, Sh.zero.body⟩).toArray)) rfl (by kernel_rfl) (by kernel_rfl) (by kernel_rfl) (fun _ _ _ h => h) (Or.inl ⟨by rfl, ?yg14_25⟩) hHeld ?rg14_25
                    case yg14_25 =>
                      intro wq hSw
                      exact step_built11 (a := .tmp 43) (b := .tmp 46) (c := .tmp 49) (d := .tmp 51) (f := .tmp 54) (k := k0) (i := k1) (p := x2) (g := x3) (z := x4) rfl rfl rfl rfl rfl rfl
                    try simp only [Act.put, List.setIfInBounds_toArray, List.set_cons_zero, List.set_cons_succ]
                    refine wpAnyH_ready (rs := [16]) (by kernel_rfl) (by simp) ?_
                    refine AllReadyH.cons (o := ⟨none, _, _, _, _, _⟩) rfl (fun K hK => ?_) (AllReadyH.nil)
                    refine wp_store_row (o := ⟨none, _, _, _, _, _⟩) 26 (.tmp 4) (.tmp 55) rfl bs (Sh.cs ⟨k0, k1, x2, x3, x4, Sh.zero.body⟩).toArray rfl rfl 26 _ HXB.out HSZ.out HSS.out HON.out ?_
                    obtain ⟨v_26, hw⟩ : ∃ v, v = v_21.setRow bs (Sh.cs ⟨k0, k1, x2, x3, x4, Sh.zero.body⟩).toArray := ⟨_, rfl⟩
                    rw [← hw]
                    have HXC := Lib.hid (show ShB v_26 bs ⟨k0, k1, x2, x3, x4, Sh.zero.body⟩ by rw [hw]; exact setRow_heap _ _ _ _ _ _ HXB.out)
                    have hfN : Fr (fun b => w1.heap.size ≤ b) v_21 v_26 := by rw [hw]; exact ⟨rfl, rfl, rfl, by simp, fun k hk hs => setRow_other _ _ _ _ (fun e => hs (by rw [e]; exact HBS.out))⟩
                    clear hw
                    have hHeld := hHeld.trans hfN
                    have hz_27 := hfN.size
                    refine hK.out _ _ hHeld (fun _ => ?_)
                    clear hK K hfN
                    try simp only [Act.put]
                    refine wpAnyH_done (by kernel_rfl) ?_ _
                    have HH := Lib.hid (hHeld.below (Nat.le_refl w1.heap.size) (fun b hb => hb))
                    clear hHeld
                    go_wp2_with fail
                    go_meet
                    case rel => exact ⟨bs, rfl, HXC.out, HH.out, HBS.out⟩
                · go_simp
                  obtain ⟨bs, hbs⟩ : ∃ b, b = v_1.heap.size := ⟨_, rfl⟩
                  obtain ⟨v_28, hw⟩ : ∃ v, v = v_1.alloc (.cells (Sh.cs Sh.zero).toArray 26) := ⟨_, rfl⟩
                  rw [← hw, ← hbs]
                  have HXB := Lib.hid (show ShB v_28 bs Sh.zero by rw [hw, hbs]; exact ShB.new v_1 Sh.zero)
                  have HBS := Lib.hid (show w1.heap.size ≤ bs by rw [hbs]; exact hHeld.size)
                  have hfN : Fr (fun b => w1.heap.size ≤ b) v_1 v_28 := by rw [hw]; exact Fr.of_below ((Below.refl _ _).alloc (Nat.le_refl _) _)
                  clear hw hbs
                  have hHeld := hHeld.trans hfN
                  have hz_29 := hfN.size
                  refine hK.out _ _ hHeld (fun _ => ?_)
                  clear hK K hfN
                  try simp only [Act.put, List.setIfInBounds_toArray, List.set_cons_zero, List.set_cons_succ]
                  refine wpAnyH_ready (rs := [10]) (by kernel_rfl) (by simp) ?_
                  refine AllReadyH.cons (o := ⟨some 51, _, _, _, _, _⟩) rfl (fun K hK => ?_) (AllReadyH.nil)
                  go_simp
                  have hsl := HSLA.out.fr hHeld (fun b o h0 hA => by injection hA with hA; injection hA with hA _; rw [← hA]; exact NB.out)
                  refine (rnumber_at (some ⟨bA, oA, none⟩) 64 c l 4 8 v_28 hsl (by decide) (by decide) (by decide) _ _ rfl rfl x3 HX3.out).mono ?_
                  clear hsl; rintro e wN ⟨rfl, hw⟩
                  obtain rfl : v_28 = wN := hw
                  have hfN := Fr.refl (fun b => w1.heap.size ≤ b) v_28
                  go_wp2_with fail
                  have hHeld := hHeld.trans hfN
                  have hz_30 := hfN.size
                  refine hK.out _ _ hHeld (fun _ => ?_)
                  clear hK K hfN
                  try simp only [Act.put, List.setIfInBounds_toArray, List.set_cons_zero, List.set_cons_succ]
                  refine wpAnyH_ready (rs := [12]) (by kernel_rfl) (by simp) ?_
                  refine AllReadyH.cons (o := ⟨some 53, _, _, _, _, _⟩) rfl (fun K hK => ?_) (AllReadyH.nil)
                  go_simp
                  have hsl := HSLA.out.fr hHeld (fun b o h0 hA => by injection hA with hA; injection hA with hA _; rw [← hA]; exact NB.out)
                  refine (rnumber_at (some ⟨bA, oA, none⟩) 64 c l 12 2 v_28 hsl (by decide) (by decide) (by decide) _ _ rfl rfl x4 HX4.out).mono ?_
                  clear hsl; rintro e wN ⟨rfl, hw⟩
                  obtain rfl : v_28 = wN := hw
                  have hfN := Fr.refl (fun b => w1.heap.size ≤ b) v_28
                  go_wp2_with fail
                  have hHeld := hHeld.trans hfN
                  have hz_31 := hfN.size
                  refine hK.out _ _ hHeld (fun _ => ?_)
                  clear hK K hfN
                  try simp only [Act.put, List.setIfInBounds_toArray, List.set_cons_zero, List.set_cons_succ]
                  refine wpAnyH_take (i := 13) (oi := ⟨some 54, _, _, _, _, _⟩) (v := ?vg13_32) rfl (by kernel_rfl) (by kernel_rfl) (by kernel_rfl) (fun _ _ _ h => h) (Or.inl ⟨by rfl, ?yg13_32⟩) hHeld ?rg13_32
                  case yg13_32 =>
                    intro wq hSw
                    (try dsimp only at hSw)
                    first | (go_simp; done) | (go_simp; with_reducible rfl)
                  try simp only [Act.put, List.setIfInBounds_toArray, List.set_cons_zero, List.set_cons_succ]
                  refine wpAnyH_take (i := 14) (oi := ⟨some 55, _, _, _, _, _⟩) (v := (.agg (Sh.cs ⟨k0, k1, x2, x3, x4, Sh.zero.body⟩).toArray)) rfl (by kernel_rfl) (by kernel_rfl) (by kernel_rfl) (fun _ _ _ h => h) (Or.inl ⟨by rfl, ?yg14_33⟩) hHeld ?rg14_33
                  case yg14_33 =>
                    intro wq hSw
                    exact step_built11 (a := .tmp 43) (b := .tmp 46) (c := .tmp 49) (d := .tmp 51) (f := .tmp 54) (k := k0) (i := k1) (p := x2) (g := x3) (z := x4) rfl rfl rfl rfl rfl rfl
                  try simp only [Act.put, List.setIfInBounds_toArray, List.set_cons_zero, List.set_cons_succ]
                  refine wpAnyH_ready (rs := [16]) (by kernel_rfl) (by simp) ?_
                  refine AllReadyH.cons (o := ⟨none, _, _, _, _, _⟩) rfl (fun K hK => ?_) (AllReadyH.nil)
                  refine wp_store_row (o := ⟨none, _, _, _, _, _⟩) 26 (.tmp 4) (.tmp 55) rfl bs (Sh.cs ⟨k0, k1, x2, x3, x4, Sh.zero.body⟩).toArray rfl rfl 26 _ HXB.out HSZ.out HSS.out HON.out ?_
                  obtain ⟨v_34, hw⟩ : ∃ v, v = v_28.setRow bs (Sh.cs ⟨k0, k1, x2, x3, x4, Sh.zero.body⟩).toArray := ⟨_, rfl⟩
                  rw [← hw]
                  have HXC := Lib.hid (show ShB v_34 bs ⟨k0, k1, x2, x3, x4, Sh.zero.body⟩ by rw [hw]; exact setRow_heap _ _ _ _ _ _ HXB.out)
                  have hfN : Fr (fun b => w1.heap.size ≤ b) v_28 v_34 := by rw [hw]; exact ⟨rfl, rfl, rfl, by simp, fun k hk hs => setRow_other _ _ _ _ (fun e => hs (by rw [e]; exact HBS.out))⟩
                  clear hw
                  have hHeld := hHeld.trans hfN
                  have hz_35 := hfN.size
                  refine hK.out _ _ hHeld (fun _ => ?_)
                  clear hK K hfN
                  try simp only [Act.put]
                  refine wpAnyH_done (by kernel_rfl) ?_ _
                  have HH := Lib.hid (hHeld.below (Nat.le_refl w1.heap.size) (fun b hb => hb))
                  clear hHeld
                  go_wp2_with fail
                  go_meet
                  case rel => exact ⟨bs, rfl, HXC.out, HH.out, HBS.out⟩
              · go_simp
                obtain ⟨bs, hbs⟩ : ∃ b, b = v_1.heap.size := ⟨_, rfl⟩
                obtain ⟨v_36, hw⟩ : ∃ v, v = v_1.alloc (.cells (Sh.cs Sh.zero).toArray 26) := ⟨_, rfl⟩
                rw [← hw, ← hbs]
                have HXB := Lib.hid (show ShB v_36 bs Sh.zero by rw [hw, hbs]; exact ShB.new v_1 Sh.zero)
                have HBS := Lib.hid (show w1.heap.size ≤ bs by rw [hbs]; exact hHeld.size)
                have hfN : Fr (fun b => w1.heap.size ≤ b) v_1 v_36 := by rw [hw]; exact Fr.of_below ((Below.refl _ _).alloc (Nat.le_refl _) _)
                clear hw hbs
                have hHeld := hHeld.trans hfN
                have hz_37 := hfN.size
                refine hK.out _ _ hHeld (fun _ => ?_)
                clear hK K hfN
                try simp only [Act.put, List.setIfInBounds_toArray, List.set_cons_zero, List.set_cons_succ]
                refine wpAnyH_ready (rs := [7]) (by kernel_rfl) (by simp) ?_
                refine AllReadyH.cons (o := ⟨some 48, _, _, _, _, _⟩) rfl (fun K hK => ?_) (AllReadyH.nil)
                go_simp
                have hsl := HSLA.out.fr hHeld (fun b o h0 hA => by injection hA with hA; injection hA with hA _; rw [← hA]; exact NB.out)
                refine (rnumber_at (some ⟨bA, oA, none⟩) 64 c l 2 2 v_36 hsl (by decide) (by decide) (by decide) _ _ rfl rfl x2 HX2.out).mono ?_
                clear hsl; rintro e wN ⟨rfl, hw⟩
                obtain rfl : v_36 = wN := hw
                have hfN := Fr.refl (fun b => w1.heap.size ≤ b) v_36
                go_wp2_with fail
                have hHeld := hHeld.trans hfN
                have hz_38 := hfN.size
                refine hK.out _ _ hHeld (fun _ => ?_)
                clear hK K hfN
                try simp only [Act.put, List.setIfInBounds_toArray, List.set_cons_zero, List.set_cons_succ]
                refine wpAnyH_take (i := 8) (oi := ⟨some 49, _, _, _, _, _⟩) (v := ?vg8_39) rfl (by kernel_rfl) (by kernel_rfl) (by kernel_rfl) (fun _ _ _ h => h) (Or.inl ⟨by rfl, ?yg8_39⟩) hHeld ?rg8_39
                case yg8_39 =>
                  intro wq hSw
                  (try dsimp only at hSw)
                  first | (go_simp; done) | (go_simp; with_reducible rfl)
                try simp only [Act.put, List.setIfInBounds_toArray, List.set_cons_zero, List.set_cons_succ]
                refine wpAnyH_ready (rs := [10]) (by kernel_rfl) (by simp) ?_
                refine AllReadyH.cons (o := ⟨some 51, _, _, _, _, _⟩) rfl (fun K hK => ?_) (AllReadyH.nil)
                go_simp
                have hsl := HSLA.out.fr hHeld (fun b o h0 hA => by injection hA with hA; injection hA with hA _; rw [← hA]; exact NB.out)
                refine (rnumber_at (some ⟨bA, oA, none⟩) 64 c l 4 8 v_36 hsl (by decide) (by decide) (by decide) _ _ rfl rfl x3 HX3.out).mono ?_
                clear hsl; rintro e wN ⟨rfl, hw⟩
                obtain rfl : v_36 = wN := hw
                have hfN := Fr.refl (fun b => w1.heap.size ≤ b) v_36
                go_wp2_with fail
                have hHeld := hHeld.trans hfN
                have hz_40 := hfN.size
                refine hK.out _ _ hHeld (fun _ => ?_)
                clear hK K hfN
                try simp only [Act.put, List.setIfInBounds_toArray, List.set_cons_zero, List.set_cons_succ]
                refine wpAnyH_ready (rs := [12]) (by kernel_rfl) (by simp) ?_
                refine AllReadyH.cons (o := ⟨some 53, _, _, _, _, _⟩) rfl (fun K hK => ?_) (AllReadyH.nil)
                go_simp
                have hsl := HSLA.out.fr hHeld (fun b o h0 hA => by injection hA with hA; injection hA with hA _; rw [← hA]; exact NB.out)
                refine (rnumber_at (some ⟨bA, oA, none⟩) 64 c l 12 2 v_36 hsl (by decide) (by decide) (by decide) _ _ rfl rfl x4 HX4.out).mono ?_
                clear hsl; rintro e wN ⟨rfl, hw⟩
                obtain rfl : v_36 = wN := hw
                have hfN := Fr.refl (fun b => w1.heap.size ≤ b) v_36
                go_wp2_with fail
                have hHeld := hHeld.trans hfN
                have hz_41 := hfN.size
                refine hK.out _ _ hHeld (fun _ => ?_)
                clear hK K hfN
                try simp only [Act.put, List.setIfInBounds_toArray, List.set_cons_zero, List.set_cons_succ]
                refine wpAnyH_take (i := 13) (oi := ⟨some 54, _, _, _, _, _⟩) (v := ?vg13_42) rfl (by kernel_rfl) (by kernel_rfl) (by kernel_rfl) (fun _ _ _ h => h) (Or.inl ⟨by rfl, ?yg13_42⟩) hHeld ?rg13_42
                case yg13_42 =>
                  intro wq hSw
                  (try dsimp only at hSw)
                  first | (go_simp; done) | (go_simp; with_reducible rfl)
                try simp only [Act.put, List.setIfInBounds_toArray, List.set_cons_zero, List.set_cons_succ]
                refine wpAnyH_take (i := 14) (oi := ⟨some 55, _, _, _, _, _⟩) (v := (.agg (Sh.cs ⟨k0, k1, x2, x3, x4, Sh.zero.body⟩).toArray)) rfl (by kernel_rfl) (by kernel_rfl) (by kernel_rfl) (fun _ _ _ h => h) (Or.inl ⟨by rfl, ?yg14_43⟩) hHeld ?rg14_43
                case yg14_43 =>
                  intro wq hSw
                  exact step_built11 (a := .tmp 43) (b := .tmp 46) (c := .tmp 49) (d := .tmp 51) (f := .tmp 54) (k := k0) (i := k1) (p := x2) (g := x3) (z := x4) rfl rfl rfl rfl rfl rfl
                try simp only [Act.put, List.setIfInBounds_toArray, List.set_cons_zero, List.set_cons_succ]
                refine wpAnyH_ready (rs := [16]) (by kernel_rfl) (by simp) ?_
                refine AllReadyH.cons (o := ⟨none, _, _, _, _, _⟩) rfl (fun K hK => ?_) (AllReadyH.nil)
                refine wp_store_row (o := ⟨none, _, _, _, _, _⟩) 26 (.tmp 4) (.tmp 55) rfl bs (Sh.cs ⟨k0, k1, x2, x3, x4, Sh.zero.body⟩).toArray rfl rfl 26 _ HXB.out HSZ.out HSS.out HON.out ?_
                obtain ⟨v_44, hw⟩ : ∃ v, v = v_36.setRow bs (Sh.cs ⟨k0, k1, x2, x3, x4, Sh.zero.body⟩).toArray := ⟨_, rfl⟩
                rw [← hw]
                have HXC := Lib.hid (show ShB v_44 bs ⟨k0, k1, x2, x3, x4, Sh.zero.body⟩ by rw [hw]; exact setRow_heap _ _ _ _ _ _ HXB.out)
                have hfN : Fr (fun b => w1.heap.size ≤ b) v_36 v_44 := by rw [hw]; exact ⟨rfl, rfl, rfl, by simp, fun k hk hs => setRow_other _ _ _ _ (fun e => hs (by rw [e]; exact HBS.out))⟩
                clear hw
                have hHeld := hHeld.trans hfN
                have hz_45 := hfN.size
                refine hK.out _ _ hHeld (fun _ => ?_)
                clear hK K hfN
                try simp only [Act.put]
                refine wpAnyH_done (by kernel_rfl) ?_ _
                have HH := Lib.hid (hHeld.below (Nat.le_refl w1.heap.size) (fun b hb => hb))
                clear hHeld
                go_wp2_with fail
                go_meet
                case rel => exact ⟨bs, rfl, HXC.out, HH.out, HBS.out⟩
            case rest =>
              obtain ⟨b, rfl, hsb, hbb, hbs⟩ := hcut
              have HNE := Lib.hid (show ¬ bA = b by have h1 := NB.out; have h2 : ¬ w1.heap.size ≤ bA := h1; omega)
              have HBS := Lib.hid hbs
              clear hbs
              go_wp2_with fail
              go_loopw [5] (fun i wr => ∃ k : Nat, k ≤ 44 ∧ i = .int .i64 (k : Int) ∧ ShB wr b ⟨k0, k1, x2, x3, x4, bodyK l k⟩ ∧ Below w1.heap.size w1 wr) (fun i _ => 44 - (intOf i).toNat)
              case atStart => exact ⟨0, by omega, rfl, by rw [show bodyK l 0 = Sh.zero.body by simp [bodyK, Sh.zero]]; exact hsb, hbb⟩
              case round =>
                clear hsb hbb
                obtain ⟨k, hk, rfl, hsb, hbb⟩ := hrel
                by_cases hlt : k < 44
                · obtain ⟨u, hu⟩ : ∃ u, u = l.getD (16 + k) 0 := ⟨_, rfl⟩
                  have hcA : wr.cell? ⟨bA, oA + (16 + k), none⟩ = some (.int .u8 (u.toNat : Int)) := by
                    rw [hu]
                    exact HCELL.out wr (F1w.out.trans (hbb.mono F1w.out.size)) (16 + k) (by omega)
                  have hcb := hsb.byte hlt
                  have hfb := hsb.free (5 + k)
                  have hst := hsb.setByte hlt (bodyK_len HL.out (by omega)) u
                  rw [show (⟨k0, k1, x2, x3, x4, (bodyK l k).set k u⟩ : Sh) = ⟨k0, k1, x2, x3, x4, bodyK l (k + 1)⟩ by rw [hu, bodyK_set HL.out hlt]] at hst
                  have HST := Lib.hid hst
                  have HBB := Lib.hid hbb
                  have i1 : (k : Int) < 44 := by omega
                  have i2 : (16 : Int) + (k : Int) < 64 := by omega
                  clear hu hst hsb hbb
                  go_wp2_with fail
                  go_roundw
                  case rel => exact ⟨k + 1, by omega, by go_num, HST.out.1, HBB.out.trans (HST.out.2.below HBB.out.size (fun x hx => by have h1 : x = b := hx; have := HBS.out; omega))⟩
                  case measure => simp [intOf]; omega
                · obtain rfl : k = 44 := by omega
                  have HG2 := Lib.hid (HG.out.trans (HSH.out.trans (show (⟨k0, k1, x2, x3, x4, (l.drop 16).take 44⟩ : Sh) = ⟨k0, k1, x2, x3, x4, bodyK l 44⟩ by rw [bodyK_full])))
                  have HSB2 := Lib.hid hsb
                  have BR2 := Lib.hid ((hbb.block _ (block_lt BRX.out)).trans BRX.out)
                  have BL2 := Lib.hid (F1w.out.trans (hbb.mono F1w.out.size))
                  have HZ2 := Lib.hid (size_shard_a ⟨k0, k1, x2, x3, x4, bodyK l 44⟩)
                  have HO2 := Lib.hid (all_oneCell_toArray (Sh.cs_one ⟨k0, k1, x2, x3, x4, bodyK l 44⟩))
                  have HQ2 := Lib.hid (show (Sh.cs Sh.zero).toArray.size = (Sh.cs ⟨k0, k1, x2, x3, x4, bodyK l 44⟩).toArray.size by rw [List.size_toArray, List.size_toArray, Sh.cs_len, Sh.cs_len])
                  have i1 : ¬ ((44 : Nat) : Int) < 44 := by omega
                  clear hsb hbb hlt hk HG
                  have HG := HG2
                  go_wp2_with (first
                    | (refine at_dst11 (d := 68) ?_; refine wpList_load_row (o := ⟨some 68, _, _, _, _, _⟩) rfl 26 (.tmp 4) rfl b rfl 26 (Sh.cs ⟨k0, k1, x2, x3, x4, bodyK l 44⟩).toArray (0, 0) _ HSB2.out Tryd.underlying26 rfl HZ2.out ?_)
                    | (refine at_none11 ?_; refine wpList_store_row (o := ⟨none, _, _, _, _, _⟩) rfl 26 (.tmp 2) (.tmp 68) rfl w.heap.size (Sh.cs ⟨k0, k1, x2, x3, x4, bodyK l 44⟩).toArray rfl rfl 26 _ BR2.out HZ2.out HQ2.out HO2.out ?_))
                  refine bodyPost_ret (results_cell_pair Tryd.results14 _ _ w.heap.size 26 _ (0, 0) _ rfl (setRow_heap _ _ _ _ _ _ BR2.out) Tryd.underlying26 rfl HZ2.out) rfl ⟨by rw [HE.out, HG.out]; rfl, below_setRow BL2.out (Nat.le_refl _) _⟩
          · have d4 : ((a15.toNat : Int) != 0) = true := by rw [bne_iff_ne]; omega
            have HE := Lib.hid (getE_form HL.out HSM.out (.inr (by rw [HNN.out]; omega)))
            have HG := Lib.hid (getS_err (l := l) (by rw [HE.out]; decide))
            go_wp2_with (refine at_none11 ?_; refine wpList_store_row (o := ⟨none, _, _, _, _, _⟩) rfl 26 (.tmp 2) (.tmp 40) rfl w.heap.size (Sh.cs Sh.zero).toArray rfl rfl 26 _ BRX.out HZS.out rfl HZO.out ?_)
            refine bodyPost_ret (results_cell_pair Tryd.results14 _ _ w.heap.size 26 _ (0, 0) _ rfl (setRow_heap _ _ _ _ _ _ BRX.out) Tryd.underlying26 rfl HZS.out) rfl ⟨by rw [HE.out, HG.out]; rfl, below_setRow F1w.out (Nat.le_refl _) _⟩
        · have d3 : ((a14.toNat : Int) != 0) = true := by rw [bne_iff_ne]; omega
          have HE := Lib.hid (getE_form HL.out HSM.out (.inr (by rw [HNN.out]; omega)))
          have HG := Lib.hid (getS_err (l := l) (by rw [HE.out]; decide))
          go_wp2_with (refine at_none11 ?_; refine wpList_store_row (o := ⟨none, _, _, _, _, _⟩) rfl 26 (.tmp 2) (.tmp 40) rfl w.heap.size (Sh.cs Sh.zero).toArray rfl rfl 26 _ BRX.out HZS.out rfl HZO.out ?_)
          refine bodyPost_ret (results_cell_pair Tryd.results14 _ _ w.heap.size 26 _ (0, 0) _ rfl (setRow_heap _ _ _ _ _ _ BRX.out) Tryd.underlying26 rfl HZS.out) rfl ⟨by rw [HE.out, HG.out]; rfl, below_setRow F1w.out (Nat.le_refl _) _⟩
      · have d2 : (k0.toNat : Int) > 4 := by omega
        have HE := Lib.hid (getE_form HL.out HSM.out (.inl (by rw [HKN.out, decide_eq_false q2, Bool.and_false])))
        have HG := Lib.hid (getS_err (l := l) (by rw [HE.out]; decide))
        go_wp2_with (refine at_none11 ?_; refine wpList_store_row (o := ⟨none, _, _, _, _, _⟩) rfl 26 (.tmp 2) (.tmp 40) rfl w.heap.size (Sh.cs Sh.zero).toArray rfl rfl 26 _ BRX.out HZS.out rfl HZO.out ?_)
        refine bodyPost_ret (results_cell_pair Tryd.results14 _ _ w.heap.size 26 _ (0, 0) _ rfl (setRow_heap _ _ _ _ _ _ BRX.out) Tryd.underlying26 rfl HZS.out) rfl ⟨by rw [HE.out, HG.out]; rfl, below_setRow F1w.out (Nat.le_refl _) _⟩
    · have d1 : (k0.toNat : Int) < 1 := by omega
      have HE := Lib.hid (getE_form HL.out HSM.out (.inl (by rw [HKN.out, decide_eq_false q1, Bool.false_and])))
      have HG := Lib.hid (getS_err (l := l) (by rw [HE.out]; decide))
      go_wp2_with (refine at_none11 ?_; refine wpList_store_row (o := ⟨none, _, _, _, _, _⟩) rfl 26 (.tmp 2) (.tmp 40) rfl w.heap.size (Sh.cs Sh.zero).toArray rfl rfl 26 _ BRX.out HZS.out rfl HZO.out ?_)
      refine bodyPost_ret (results_cell_pair Tryd.results14 _ _ w.heap.size 26 _ (0, 0) _ rfl (setRow_heap _ _ _ _ _ _ BRX.out) Tryd.underlying26 rfl HZS.out) rfl ⟨by rw [HE.out, HG.out]; rfl, below_setRow F1w.out (Nat.le_refl _) _⟩
  · have hz : ((bstr (closed (l.take 60))).toList == (bstr l).toList) = false := by rw [bstr_toList, bstr_toList]; simpa using hsum
    have HE := Lib.hid (getE_sum HL.out (fun h => hsum ((closed_iff HL.out).2 h)))
    have HG := Lib.hid (getS_err (l := l) (by rw [HE.out]; decide))
    clear hsum
    go_enter Tryd.func14, Tryd.ntmps14
    go_wp2_with (rw [← Hw0.out])
    refine wp_region_held_drew (S := fun w' => Fr (fun _ => False) w0.drew w') (by kernel_rfl) (Fr.refl _ _) (fun hHeld => ?_)
    clear hHeld
    refine wpAnyH_take (i := 0) (oi := ⟨some 10, _, _, _, _, _⟩) (v := ?va0) rfl (by kernel_rfl) (by kernel_rfl) (by kernel_rfl) (fun _ _ _ h => h) (Or.inl ⟨by rfl, ?ya0⟩) (Fr.refl _ _) ?ra0
    case ya0 =>
      intro wq hSw
      (try dsimp only at hSw)
      first | (go_simp; done) | (go_simp; with_reducible rfl)
    try simp only [Act.put, List.setIfInBounds_toArray, List.set_cons_zero, List.set_cons_succ]
    refine wpAnyH_take (i := 1) (oi := ⟨some 11, _, _, _, _, _⟩) (v := ?va1) rfl (by kernel_rfl) (by kernel_rfl) (by kernel_rfl) (fun _ _ _ h => h) (Or.inl ⟨by rfl, ?ya1⟩) (Fr.refl _ _) ?ra1
    case ya1 =>
      intro wq hSw
      (try dsimp only at hSw)
      first | (go_simp; done) | (go_simp; with_reducible rfl)
    try simp only [Act.put, List.setIfInBounds_toArray, List.set_cons_zero, List.set_cons_succ]
    refine wpAnyH_take (i := 4) (oi := ⟨some 14, _, _, _, _, _⟩) (v := ?va4) rfl (by kernel_rfl) (by kernel_rfl) (by kernel_rfl) (fun _ _ _ h => h) (Or.inl ⟨by rfl, ?ya4⟩) (Fr.refl _ _) ?ra4
    case ya4 =>
      intro wq hSw
      (try dsimp only at hSw)
      first | (go_simp; done) | (go_simp; with_reducible rfl)
    try simp only [Act.put, List.setIfInBounds_toArray, List.set_cons_zero, List.set_cons_succ]
    refine wpAnyH_take (i := 5) (oi := ⟨some 15, _, _, _, _, _⟩) (v := ?va5) rfl (by kernel_rfl) (by kernel_rfl) (by kernel_rfl) (fun _ _ _ h => h) (Or.inl ⟨by rfl, ?ya5⟩) (Fr.refl _ _) ?ra5
    case ya5 =>
      intro wq hSw
      (try dsimp only at hSw)
      have kk := str_of (HSB.out.fr hSw (fun _ _ _ _ h => h))
      first | (go_simp; done) | (go_simp; with_reducible rfl)
    try simp only [Act.put, List.setIfInBounds_toArray, List.set_cons_zero, List.set_cons_succ]
    refine wpAnyH_ready (rs := [2]) (by kernel_rfl) (by simp) ?_
    refine AllReadyH.cons (o := ⟨some 12, _, _, _, _, _⟩) rfl (fun K hK => ?_) AllReadyH.nil
    go_simp
    refine (rclosed_any (some ⟨bA, oA, none⟩) 60 c (l.take 60) w0.drew HS60.out (by decide)).mono ?_
    rintro e w1 ⟨A1, n1, c1, rfl, ho, hb⟩
    obtain rfl : n1 = 64 := by
      have h1 := ho.sl.len
      rw [cells_length, HCL.out] at h1
      omega
    have hfr := Fr.of_below (S := fun _ => False) hb
    have S1 := Lib.hid ho.sl
    have F1 := Lib.hid ((Below.drew (Below.refl w0.heap.size w0)).trans hb)
    clear ho hb
    go_wp2_with fail
    refine hK.out _ _ hfr (fun hHeld => ?_)
    clear hK K hHeld
    try simp only [Act.put, List.setIfInBounds_toArray, List.set_cons_zero, List.set_cons_succ]
    refine wpAnyH_re (S' := fun w' => Fr (fun _ => False) w1 w') (fun w' h => hfr.trans h) ?_
    clear hfr
    refine wpAnyH_take (i := 3) (oi := ⟨some 13, _, _, _, _, _⟩) (v := ?va3) rfl (by kernel_rfl) (by kernel_rfl) (by kernel_rfl) (fun _ _ _ h => h) (Or.inl ⟨by rfl, ?ya3⟩) (Fr.refl _ _) ?ra3
    case ya3 =>
      intro wq hSw
      (try dsimp only at hSw)
      have kk := str_of (S1.out.fr hSw (fun _ _ _ _ h => h))
      first | (go_simp; done) | (go_simp; with_reducible rfl)
    try simp only [Act.put, List.setIfInBounds_toArray, List.set_cons_zero, List.set_cons_succ]
    refine wpAnyH_take (i := 6) (oi := ⟨some 16, _, _, _, _, _⟩) (v := ?va6) rfl (by kernel_rfl) (by kernel_rfl) (by kernel_rfl) (fun _ _ _ h => h) (Or.inl ⟨by rfl, ?ya6⟩) (Fr.refl _ _) ?ra6
    case ya6 =>
      intro wq hSw
      (try dsimp only at hSw)
      first | (go_simp; done) | (go_simp; with_reducible rfl)
    try simp only [Act.put, List.setIfInBounds_toArray, List.set_cons_zero, List.set_cons_succ]
    refine wpAnyH_done (by kernel_rfl) ?_ _
    have F1w := Lib.hid (HB0.out.trans (F1.out.mono (by have := HZ0.out; omega)))
    have BRX := Lib.hid ((F1.out.block _ (by have := HZ0.out; omega)).trans HBR.out)
    go_wp2_with (refine at_none11 ?_; refine wpList_store_row (o := ⟨none, _, _, _, _, _⟩) rfl 26 (.tmp 2) (.tmp 17) rfl w.heap.size (Sh.cs Sh.zero).toArray rfl rfl 26 _ BRX.out HZS.out rfl HZO.out ?_)
    refine bodyPost_ret (results_cell_pair Tryd.results14 _ _ w.heap.size 26 _ (0, 0) _ rfl (setRow_heap _ _ _ _ _ _ BRX.out) Tryd.underlying26 rfl HZS.out) rfl ⟨by rw [HE.out, HG.out]; rfl, below_setRow F1w.out (Nat.le_refl _) _⟩
theorem rsget_any (A : Option Addr) (n c : Nat) (l : List UInt8) (w : World) (h : Sl w 1 A n c (cells l)) : Calls Tryd.prog 14 #[.slice A n c] w fun e w' => e = .returned (.tuple #[.agg (getS l).cs.toArray, .int .i64 (getE l : Int)]) ∧ Below w.heap.size w w' := by
  have hl : l.length = n := by have := h.len; rw [cells_length, Nat.mul_one] at this; exact this
  by_cases hn : n = 64
  · subst hn
    exact rsget_long A c l hl w h
  · have hE : getE l = 2 := getE_len (by omega)
    rw [hE, getS_err (by rw [hE]; decide)]
    exact rsget_short A n c hn w
end Go.Proofs.YtdhbgfnfbeapcaaDoor

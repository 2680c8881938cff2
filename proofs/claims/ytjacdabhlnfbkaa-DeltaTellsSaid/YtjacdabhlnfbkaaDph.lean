/-
  DeltaTells returns true, whatever its arguments. No condition. (Written by gen_dph.py.)
-/
import Derived.Test.YtjacdabhlnfbkaaDpe
import Derived.Test.YtjacdabhlnfbkaaCce
namespace Go.Proofs.Ytjacdabhlnfbkaa
open Go.RowKit Go.Proofs
set_option linter.unusedVariables false

/-- Rows that a coder made of a text, one of which is changed at one place. -/
structure Tel (k m V a p : Nat) (ds : List (List UInt8)) (mask : UInt8) : Prop where
  lev : Lev k V ds
  k1 : 1 ≤ k
  m1 : 1 ≤ m
  n : k + m ≤ 255
  a : a < k + m
  p : p < V
  mask : mask ≠ 0
/-- All rows. -/
def allT (k m : Nat) (ds : List (List UInt8)) : List (List UInt8) := ds ++ parL k ds m
/-- The row that is changed, as it was, and its changed byte. -/
def rowT (k m a : Nat) (ds : List (List UInt8)) : List UInt8 := (allT k m ds).getD a []
def nowT (k m a p : Nat) (ds : List (List UInt8)) (mask : UInt8) : List UInt8 := (rowT k m a ds).set p ((rowT k m a ds).getD p 0 ^^^ mask)
def chgT (k m a p : Nat) (ds : List (List UInt8)) (mask : UInt8) : List (List UInt8) := (allT k m ds).set a (nowT k m a p ds mask)
section
variable {k m V a p : Nat} {ds : List (List UInt8)} {mask : UInt8}
theorem Tel.len (h : Tel k m V a p ds mask) : (allT k m ds).length = k + m := by rw [allT, List.length_append, h.lev.len, parL_length]
theorem Tel.lo (h : Tel k m V a p ds mask) (i : Nat) (hi : i < k) : (allT k m ds).getD i [] = ds.getD i [] := by
  rw [allT, List.getD_eq_getElem?_getD, List.getElem?_append_left (by rw [h.lev.len]; exact hi), List.getD_eq_getElem?_getD]
theorem Tel.hi (h : Tel k m V a p ds mask) (i : Nat) (hi : k ≤ i) (hi2 : i < k + m) : (allT k m ds).getD i [] = shard k ds i := by
  rw [allT, List.getD_eq_getElem?_getD, List.getElem?_append_right (by rw [h.lev.len]; exact hi), h.lev.len, parL_get k ds m _ (by omega), show k + (i - k) = i from by omega]
  rfl
theorem Tel.wid (h : Tel k m V a p ds mask) (i : Nat) (hi : i < k + m) : ((allT k m ds).getD i []).length = V := by
  by_cases hk : i < k
  · rw [h.lo i hk]; exact h.lev.wid i hk
  · rw [h.hi i (by omega) hi]; exact h.lev.shard_len h.k1 i
theorem Tel.row (h : Tel k m V a p ds mask) : (rowT k m a ds).length = V := h.wid a h.a
theorem Tel.at_ (h : Tel k m V a p ds mask) : (allT k m ds)[a]? = some (rowT k m a ds) := by
  rw [rowT, List.getD_eq_getElem?_getD, List.getElem?_eq_getElem (by rw [h.len]; exact h.a)]; rfl
theorem Tel.now (h : Tel k m V a p ds mask) : (nowT k m a p ds mask).length = V := by rw [nowT, List.length_set, h.row]
theorem Tel.ne (h : Tel k m V a p ds mask) : (rowT k m a ds).getD p 0 ^^^ (nowT k m a p ds mask).getD p 0 ≠ 0 := by
  rw [nowT, set_getD_same _ _ _ _ (by rw [h.row]; exact h.p), ← UInt8.xor_assoc, UInt8.xor_self, UInt8.zero_xor]
  exact h.mask
theorem Tel.rows (h : Tel k m V a p ds mask) : ∀ r ∈ allT k m ds, r.length = V := fun r hr => by
  obtain ⟨i, hi, rfl⟩ := List.mem_iff_getElem.1 hr
  have := h.wid i (by rw [← h.len]; exact hi)
  rwa [List.getD_eq_getElem?_getD, List.getElem?_eq_getElem hi] at this
theorem Tel.rows2 (h : Tel k m V a p ds mask) : ∀ r ∈ chgT k m a p ds mask, r.length = V := fun r hr => by
  rcases List.mem_or_eq_of_mem_set hr with h' | h'
  · exact h.rows r h'
  · rw [h']; exact h.now
theorem Tel.even (h : Tel k m V a p ds mask) : evenB (allT k m ds) ((k : Int) + (m : Int)) = true := by
  have := even_of (rs := allT k m ds) (k := k + m) h.len h.rows
  rwa [Int.natCast_add] at this
theorem Tel.even2 (h : Tel k m V a p ds mask) : evenB (chgT k m a p ds mask) ((k : Int) + (m : Int)) = true := by
  have := even_of (rs := chgT k m a p ds mask) (k := k + m) (by rw [chgT, List.length_set]; exact h.len) h.rows2
  rwa [Int.natCast_add] at this
theorem Tel.holds (h : Tel k m V a p ds mask) : holdsB k m (allT k m ds) = true := by rw [holdsB, h.even, allT, holds_none h.lev.len, decide_eq_true rfl]; rfl
theorem Tel.offD (h : Tel k m V a p ds mask) (ha : a < k) : offL k (chgT k m a p ds mask) m = (List.range m).map (k + ·) := by
  have h2 := h.ne
  have e : rowT k m a ds = ds.getD a [] := h.lo a ha
  rw [e] at h2
  exact h.lev.tells ha h.p h.now h2 h.n
theorem Tel.offP (h : Tel k m V a p ds mask) (ha : ¬ a < k) : offL k (chgT k m a p ds mask) m = [a] := by
  have h2 := h.a
  have hn : nowT k m a p ds mask ≠ shard k ds (k + (a - k)) := fun e => by
    have h3 := h.ne
    rw [e, rowT, h.hi a (by omega) h2, show k + (a - k) = a from by omega, UInt8.xor_self] at h3
    exact h3 rfl
  have := tells_parity (k := k) (m := m) (a := a - k) h.lev.len (by omega) hn
  rwa [show k + (a - k) = a from by omega] at this
theorem Tel.no (h : Tel k m V a p ds mask) : holdsB k m (chgT k m a p ds mask) = false := by
  rw [holdsB, h.even2, decide_eq_false]
  · rfl
  · intro e
    by_cases ha : a < k
    · rw [h.offD ha] at e
      have := congrArg List.length e
      simp at this
      have := h.m1
      omega
    · rw [h.offP ha] at e
      cases e
theorem Tel.at2 (h : Tel k m V a p ds mask) : (chgT k m a p ds mask)[a]? = some (nowT k m a p ds mask) := by rw [chgT, List.getElem?_set_self (by rw [h.len]; exact h.a)]
theorem Tel.back (h : Tel k m V a p ds mask) : (chgT k m a p ds mask).set a ((nowT k m a p ds mask).set p ((nowT k m a p ds mask).getD p 0 ^^^ mask)) = allT k m ds := by
  have e1 : (nowT k m a p ds mask).getD p 0 ^^^ mask = (rowT k m a ds).getD p 0 := by
    rw [nowT, set_getD_same _ _ _ _ (by rw [h.row]; exact h.p), UInt8.xor_assoc, UInt8.xor_self, UInt8.xor_zero]
  have e2 : (nowT k m a p ds mask).set p ((rowT k m a ds).getD p 0) = rowT k m a ds := by
    rw [nowT, List.set_set]
    apply List.ext_getElem?
    intro i
    by_cases hi : i = p
    · subst hi
      rw [List.getElem?_set_self (by rw [h.row]; exact h.p), List.getD_eq_getElem?_getD, List.getElem?_eq_getElem (by rw [h.row]; exact h.p)]
      rfl
    · rw [List.getElem?_set_ne (fun e => hi e.symm)]
  rw [e1, e2, chgT, List.set_set]
  apply List.ext_getElem?
  intro i
  by_cases hi : i = a
  · subst hi
    rw [List.getElem?_set_self (by rw [h.len]; exact h.a), h.at_]
  · rw [List.getElem?_set_ne (fun e => hi e.symm)]
end
theorem cut_lev (l : List UInt8) (V k : Nat) : Lev k V (cutL l V k) := ⟨cutL_length _ _ _, fun i hi => by rw [cut_getD l V k i hi, cutR_length]⟩

/-- The same, ahead of a row's choice. -/
structure TelA (k m V p : Nat) (ds : List (List UInt8)) (mask : UInt8) : Prop where
  lev : Lev k V ds
  k1 : 1 ≤ k
  m1 : 1 ≤ m
  n : k + m ≤ 255
  p : p < V
  mask : mask ≠ 0
theorem TelA.at2' {k m V a p : Nat} {ds : List (List UInt8)} {mask : UInt8} (h : TelA k m V p ds mask) (ha : a < k + m) : Tel k m V a p ds mask := ⟨h.lev, h.k1, h.m1, h.n, ha, h.p, h.mask⟩
theorem TelA.holds {k m V p : Nat} {ds : List (List UInt8)} {mask : UInt8} (h : TelA k m V p ds mask) : holdsB k m (allT k m ds) = true := (h.at2' (a := 0) (by have := h.k1; omega)).holds
theorem TelA.rows_ok {k m V p : Nat} {ds : List (List UInt8)} {mask : UInt8} (h : TelA k m V p ds mask) (hV : V ≤ 1048576) : ∀ r ∈ allT k m ds, r.length ≤ 1048576 := fun r hr => by
  rw [(h.at2' (a := 0) (by have := h.k1; omega)).rows r hr]; exact hV
theorem Tel.rows_ok {k m V a p : Nat} {ds : List (List UInt8)} {mask : UInt8} (h : Tel k m V a p ds mask) (hV : V ≤ 1048576) : ∀ r ∈ allT k m ds, r.length ≤ 1048576 := fun r hr => by rw [h.rows r hr]; exact hV
theorem Tel.rows2_ok {k m V a p : Nat} {ds : List (List UInt8)} {mask : UInt8} (h : Tel k m V a p ds mask) (hV : V ≤ 1048576) : ∀ r ∈ chgT k m a p ds mask, r.length ≤ 1048576 := fun r hr => by rw [h.rows2 r hr]; exact hV

set_option maxRecDepth 100000 in
set_option maxHeartbeats 3200000 in
theorem deltaTells_walk (k m : Int) (A : Option Addr) (c : Nat) (l : List UInt8) (iz : Int) (mask : UInt8) (w : World) (hk : -9223372036854775808 ≤ k ∧ k < 9223372036854775808) (hm : -9223372036854775808 ≤ m ∧ m < 9223372036854775808) (hs : Sl w 1 A l.length c (cells l)) :
    Calls Try.prog 6 #[.int .i64 k, .int .i64 m, .slice A l.length c, .int .i64 iz, .int .u8 (mask.toNat : Int)] w (SaysTrue w) := by
  obtain ⟨L, hL⟩ : ∃ L, L = l.length := ⟨_, rfl⟩
  rw [← hL] at hs ⊢
  have hlim := hs.lim
  unfold maxLen at hlim
  have HS := Lib.hid hs
  have HL := Lib.hid hL
  clear hs hL
  by_cases hmay : 1 ≤ k ∧ 1 ≤ m ∧ k + m ≤ 255
  · obtain ⟨K0, hK0⟩ : ∃ x : Nat, k = (x : Int) := ⟨k.toNat, by omega⟩
    obtain ⟨M0, hM0⟩ : ∃ x : Nat, m = (x : Int) := ⟨m.toNat, by omega⟩
    subst hK0; subst hM0
    have hb1 : 1 ≤ K0 := by omega
    have hb2 : 1 ≤ M0 := by omega
    have hb3 : K0 + M0 ≤ 255 := by omega
    have hkw : IntKind.i64.wrap ((K0 : Int) + (M0 : Int)) = (K0 : Int) + (M0 : Int) := by rw [IntKind.wrap_i64]; omega
    clear hmay hk hm
    by_cases h24 : (24 : Int) < (K0 : Int) + (M0 : Int)
    · go_enter Try.func6, Try.ntmps6
      go_wp2_with fail
      refine (new_any _).mono ?_; rintro e w1 ⟨rfl, hf, hb⟩
      obtain ⟨F, hF⟩ : ∃ F, F = w.heap.size + 1 := ⟨_, rfl⟩
      obtain ⟨T, hT⟩ : ∃ T, T = w.heap.size := ⟨_, rfl⟩
      rw [← hF] at hf ⊢
      rw [← hT] at hf
      have HT := Lib.hid (show w.heap.size ≤ T by omega)
      clear hF hT
      go_wp2_with fail
      refine (cnew_at F T (K0 : Int) (M0 : Int) K0 M0 rfl rfl ⟨hb1, hb2, hb3⟩ _ hf).mono ?_; rintro e w2 ⟨C, rfl, hC, hr⟩
      have L2 := Lib.hid (Lw.of hb HT.out hr hC.fld)
      have C2 := Lib.hid hC
      clear hf hb hC hr
      go_wp2_with fail
      refine (goes7_any _).mono ?_; rintro e wz ⟨rfl, hbz⟩
      have LZ := Lib.hid (L2.out.later hbz)
      clear hbz
      go_wp2_with fail
      go_ret
      exact ⟨rfl, LZ.out.bel⟩
    · by_cases h2k : (1000 : Int) < (L : Int)
      · go_enter Try.func6, Try.ntmps6
        go_wp2_with fail
        refine (new_any _).mono ?_; rintro e w1 ⟨rfl, hf, hb⟩
        obtain ⟨F, hF⟩ : ∃ F, F = w.heap.size + 1 := ⟨_, rfl⟩
        obtain ⟨T, hT⟩ : ∃ T, T = w.heap.size := ⟨_, rfl⟩
        rw [← hF] at hf ⊢
        rw [← hT] at hf
        have HT := Lib.hid (show w.heap.size ≤ T by omega)
        clear hF hT
        go_wp2_with fail
        refine (cnew_at F T (K0 : Int) (M0 : Int) K0 M0 rfl rfl ⟨hb1, hb2, hb3⟩ _ hf).mono ?_; rintro e w2 ⟨C, rfl, hC, hr⟩
        have L2 := Lib.hid (Lw.of hb HT.out hr hC.fld)
        have C2 := Lib.hid hC
        clear hf hb hC hr
        go_wp2_with fail
        refine (goes7_any _).mono ?_; rintro e wz ⟨rfl, hbz⟩
        have LZ := Lib.hid (L2.out.later hbz)
        clear hbz
        go_wp2_with fail
        go_ret
        exact ⟨rfl, LZ.out.bel⟩
      · by_cases hmk : mask = 0
        · have hz : ((mask.toNat : Int) == 0) = true := by rw [hmk]; rfl
          clear hmk
          go_enter Try.func6, Try.ntmps6
          go_wp2_with fail
          refine (new_any _).mono ?_; rintro e w1 ⟨rfl, hf, hb⟩
          obtain ⟨F, hF⟩ : ∃ F, F = w.heap.size + 1 := ⟨_, rfl⟩
          obtain ⟨T, hT⟩ : ∃ T, T = w.heap.size := ⟨_, rfl⟩
          rw [← hF] at hf ⊢
          rw [← hT] at hf
          have HT := Lib.hid (show w.heap.size ≤ T by omega)
          clear hF hT
          go_wp2_with fail
          refine (cnew_at F T (K0 : Int) (M0 : Int) K0 M0 rfl rfl ⟨hb1, hb2, hb3⟩ _ hf).mono ?_; rintro e w2 ⟨C, rfl, hC, hr⟩
          have L2 := Lib.hid (Lw.of hb HT.out hr hC.fld)
          have C2 := Lib.hid hC
          clear hf hb hC hr
          go_wp2_with fail
          refine (goes7_any _).mono ?_; rintro e wz ⟨rfl, hbz⟩
          have LZ := Lib.hid (L2.out.later hbz)
          clear hbz
          go_wp2_with fail
          go_ret
          exact ⟨rfl, LZ.out.bel⟩
        · have hz : ((mask.toNat : Int) == 0) = false := by
            rw [beq_eq_false_iff_ne]
            intro e
            exact hmk (UInt8.toNat_inj.1 (by simpa using e))
          obtain ⟨Q0, hQ0⟩ : ∃ Q0, Q0 = L / K0 := ⟨_, rfl⟩
          obtain ⟨V, hV⟩ : ∃ V, V = Q0 + 1 := ⟨_, rfl⟩
          have hVL : V ≤ 1001 := by
            have := Nat.div_le_self L K0
            omega
          have hV1 : 1 ≤ V := by omega
          have hkV : L ≤ K0 * V := by
            rw [hV, hQ0, Nat.mul_add, Nat.mul_one]
            have h5 := Nat.div_add_mod L K0
            have h6 := Nat.mod_lt L (show K0 > 0 by omega)
            omega
          have hquo : ((L : Int).tdiv (K0 : Int)) = (Q0 : Int) := by rw [hQ0]; simp
          have hQb : Q0 ≤ 1000 := by omega
          obtain ⟨p0, hp0⟩ : ∃ x, x = L % V := ⟨_, rfl⟩
          have hp0V : p0 < V := by rw [hp0]; exact Nat.mod_lt _ (by omega)
          have hrem : ((L : Int).tmod (V : Int)) = (p0 : Int) := by rw [hp0]; rfl
          have hVn : ((Q0 : Int) + 1).toNat = V := by omega
          have HVn := Lib.hid hVn
          have hV4 : (Q0 : Int) + 1 = (V : Int) := by omega
          have HV4 := Lib.hid hV4
          obtain ⟨ds, hds⟩ : ∃ ds, ds = cutL l V K0 := ⟨_, rfl⟩
          have hT0 : TelA K0 M0 V p0 ds mask := by rw [hds]; exact ⟨cut_lev l V K0, by omega, by omega, by omega, hp0V, hmk⟩
          have hdsW : ∀ r ∈ ds, r.length ≤ 1048576 := fun r hr => by rw [hds] at hr; rw [cut_rows l V K0 r hr]; omega
          have hevK : evenB ds (K0 : Int) = true := by rw [hds]; exact cut_even l V K0
          have HT0 := Lib.hid hT0
          have Hds := Lib.hid hds
          have HdsW := Lib.hid hdsW
          have HevK := Lib.hid hevK
          have HkV := Lib.hid hkV
          have HV := Lib.hid hV
          have Hmk := Lib.hid hmk
          clear hT0 hds hdsW hkV hV hQ0 hVn hV4 hevK hp0 hmk
          go_enter Try.func6, Try.ntmps6
          go_wp2_with fail
          refine (new_any _).mono ?_; rintro e w1 ⟨rfl, hf, hb⟩
          obtain ⟨F, hF⟩ : ∃ F, F = w.heap.size + 1 := ⟨_, rfl⟩
          obtain ⟨T, hT⟩ : ∃ T, T = w.heap.size := ⟨_, rfl⟩
          rw [← hF] at hf ⊢
          rw [← hT] at hf
          have HT := Lib.hid (show w.heap.size ≤ T by omega)
          clear hF hT
          go_wp2_with fail
          refine (cnew_at F T (K0 : Int) (M0 : Int) K0 M0 rfl rfl ⟨hb1, hb2, hb3⟩ _ hf).mono ?_; rintro e w2 ⟨C, rfl, hC, hr⟩
          have L2 := Lib.hid (Lw.of hb HT.out hr hC.fld)
          have C2 := Lib.hid hC
          clear hf hb hC hr
          go_wp2_with fail
          have S2 := Lib.hid (HS.out.below L2.out.bel (Nat.le_refl _))
          have hsp := split_any C K0 M0 F T A L c l ((Q0 : Int) + 1) (by omega) (by omega) _ C2.out S2.out
          refine hsp.mono ?_; clear hsp; rintro e w3 ⟨hb3, hR⟩
          rcases hR with ⟨hno, _⟩ | ⟨_, hno, _⟩ | ⟨_, _, g3, rfl, hD⟩
          · exact absurd ⟨by omega, by omega⟩ hno
          · exact absurd hno (by rw [HV4.out]; have := HkV.out; have h5 : (L : Int) ≤ (K0 : Int) * (V : Int) := by rw [← Int.natCast_mul]; exact Int.ofNat_le.2 this
                                 omega)
          rw [HVn.out, ← Hds.out] at hD
          have D3 := Lib.hid hD
          clear hD
          have L3 := Lib.hid (L2.out.later hb3)
          have C3 := Lib.hid (C2.out.later hb3)
          clear hb3 L2 C2
          clear S2
          go_wp2_with fail
          refine (all_own C K0 M0 F T (some ⟨g3, 0, none⟩) K0 K0 ds _ C3.out D3.out HdsW.out).mono ?_; rintro e w4 ⟨hb4, hR⟩
          rcases hR with ⟨hno, _⟩ | ⟨_, A4, c4, rfl, hP⟩
          · rw [HevK.out] at hno; cases hno
          have P4 := Lib.hid (show Gm w4 w3.heap.size A4 (K0 + M0) c4 (allT K0 M0 ds) from hP)
          have X4 := Lib.hid hb4
          clear hP D3 hb4
          have hlim4 := P4.out.gr.lim
          unfold maxLen at hlim4
          have hNN : ((K0 + M0 : Nat) : Int) = (K0 : Int) + (M0 : Int) := by simp
          go_wp2_with fail
          refine (dholds_any C K0 M0 F T A4 (K0 + M0) c4 _ _ (C3.out.later X4.out) P4.out.gr (HT0.out.rows_ok (by omega))).mono ?_; rintro e w5 ⟨he, hb5⟩
          rw [HT0.out.holds] at he
          subst he
          have P5 := Lib.hid (P4.out.later hb5)
          have X5 := Lib.hid (X4.out.trans (hb5.mono X4.out.size))
          clear hb5 P4 X4
          go_upto_region 8 with (fail)
          go_cut [16] from 79 (fun v wx => ∃ a : Nat, a < K0 + M0 ∧ v = .int .i64 (a : Int) ∧ wx = w5)
          case first =>
            go_wp2_with fail
            all_goals
              go_meet
              case rel => exact ⟨(max 0 (min iz ((K0 : Int) + (M0 : Int) - 1))).toNat, by omega, by rw [Int.toNat_of_nonneg (by omega)]; first | done | (congr 1; omega), rfl⟩
          case rest =>
            obtain ⟨a, haN, rfl, hwc⟩ := hcut
            subst hwc
            have hTl : Tel K0 M0 V a p0 ds mask := (HT0.out).at2' haN
            have HTl := Lib.hid hTl
            have haNi : (a : Int) < (K0 : Int) + (M0 : Int) := by omega
            clear hTl
            obtain ⟨b, o, g, cc, hA4, hbg, hgB, hcr, hcb, hset⟩ := P5.out.at_ HTl.out.at_ (by rw [HTl.out.row]; omega)
            subst hA4
            rw [HTl.out.row] at hcr hcb
            obtain ⟨hcell, hfz⟩ := hcb p0 (by omega)
            obtain ⟨x, hx⟩ : ∃ x, x = (rowT K0 M0 a ds).getD p0 0 := ⟨_, rfl⟩
            rw [← hx] at hcell
            have Hx := Lib.hid hx
            have Hset := Lib.hid (hset p0 (x ^^^ mask) (by rw [HTl.out.row]; omega))
            have HgB := Lib.hid hgB
            clear hx hset hcb hbg hgB
            go_wp2_with fail
            go_region
            have X6 := Lib.hid (Below.drew (X5.out.setCell (p := ⟨g, p0, none⟩) HgB.out (.int .u8 (bits .xor .u8 (x.toNat : Int) (mask.toNat : Int)))))
            have P6 := Lib.hid (Hset.out.later (Below.drew (Below.refl _ _)))
            rw [← xor_b] at P6
            obtain ⟨w6, hw6⟩ : ∃ y, y = (wc.setCell ⟨g, p0, none⟩ (.int .u8 (bits .xor .u8 (x.toNat : Int) (mask.toNat : Int)))).drew := ⟨_, rfl⟩
            rw [← hw6] at X6 P6 ⊢
            clear hw6 hcell hfz hcr HgB Hset
            have hP6 := P6.out
            rw [Hx.out] at hP6
            have Q6 := Lib.hid (show Gm w6 w3.heap.size (some ⟨b, o, none⟩) (K0 + M0) c4 (chgT K0 M0 a p0 ds mask) from hP6)
            clear hP6 P6 Hx P5 X5
            go_wp2_with fail
            refine (doff_any C K0 M0 F T _ (K0 + M0) c4 _ _ (C3.out.later X6.out) Q6.out.gr (HTl.out.rows2_ok (by omega))).mono ?_; rintro e w7 ⟨hR, hb7⟩
            rcases hR with ⟨hno, _⟩ | ⟨_, A7, q7, c7, rfl, hO⟩
            · rw [HTl.out.even2] at hno; cases hno
            have P7 := Lib.hid (Q6.out.later hb7)
            have X7 := Lib.hid (X6.out.trans (hb7.mono X6.out.size))
            clear hb7 Q6 X6
            by_cases haK : a < K0
            · rw [HTl.out.offD haK] at hO
              have hq := hO.len
              rw [ncells_length, List.length_map, List.length_range, Nat.mul_one] at hq
              subst hq
              have haKi : (a : Int) < (K0 : Int) := by omega
              have O7 := Lib.hid hO
              obtain ⟨m1, hm1⟩ : ∃ x, x = M0 - 1 := ⟨_, rfl⟩
              have hmi : (M0 : Int) - 1 = (m1 : Int) := by omega
              have hm1n : m1 < M0 := by omega
              obtain ⟨z1, hz1⟩ : ∃ x, x = K0 + m1 := ⟨_, rfl⟩
              have hz2 : ((z1 : Int) != (K0 : Int) + (M0 : Int) - 1) = false := by simp; omega
              have Hm1 := Lib.hid hm1
              have Hz1 := Lib.hid hz1
              clear hO hm1 hz1 haK
              go_wp2_with fail
              refine (dholds_any C K0 M0 F T _ (K0 + M0) c4 _ _ (C3.out.later X7.out) P7.out.gr (HTl.out.rows2_ok (by omega))).mono ?_; rintro e w8 ⟨he, hb8⟩
              rw [HTl.out.no] at he
              subst he
              have P8 := Lib.hid (P7.out.later hb8)
              have X8 := Lib.hid (X7.out.trans (hb8.mono X7.out.size))
              have O8 := Lib.hid (O7.out.below hb8 (Nat.le_refl _))
              clear hb8 P7 X7 O7
              obtain ⟨b8, o8, rfl, hc8⟩ := O8.out.at_ (k := 0) (by omega)
              have l0 := hc8 0 (.int .i64 (K0 : Int)) (by simp [ncells, show 0 < M0 by omega])
              have l1 := hc8 m1 (.int .i64 (z1 : Int)) (by simp [ncells, hm1n, Hz1.out])
              rw [Nat.add_zero] at l0
              clear hc8
              by_cases hM1 : M0 = 1
              · have hz3 : ((M0 : Int) != 1) = false := by simp [hM1]
                have HM1 := Lib.hid hM1
                clear hM1
                go_upto_region 16 with (fail)
                clear l0 l1 O8
                obtain ⟨b, o, g, cc, hA4, hbg, hgB, hcr, hcb, hset⟩ := P8.out.at_ HTl.out.at2 (by rw [HTl.out.now]; omega)
                injection hA4 with hA4; injection hA4 with hA4 hA5; subst hA4; subst hA5
                rw [HTl.out.now] at hcr hcb
                obtain ⟨hcell, hfz⟩ := hcb p0 (by omega)
                obtain ⟨x, hx⟩ : ∃ x, x = (nowT K0 M0 a p0 ds mask).getD p0 0 := ⟨_, rfl⟩
                rw [← hx] at hcell
                have Hx := Lib.hid hx
                have Hset := Lib.hid (hset p0 (x ^^^ mask) (by rw [HTl.out.now]; omega))
                have HgB := Lib.hid hgB
                clear hx hset hcb hbg hgB
                go_wp2_with fail
                go_region
                have X9 := Lib.hid (Below.drew (X8.out.setCell (p := ⟨g, p0, none⟩) HgB.out (.int .u8 (bits .xor .u8 (x.toNat : Int) (mask.toNat : Int)))))
                have P9 := Lib.hid (Hset.out.later (Below.drew (Below.refl _ _)))
                rw [← xor_b] at P9
                obtain ⟨w9, hw9⟩ : ∃ y, y = (w8.setCell ⟨g, p0, none⟩ (.int .u8 (bits .xor .u8 (x.toNat : Int) (mask.toNat : Int)))).drew := ⟨_, rfl⟩
                rw [← hw9] at X9 P9 ⊢
                clear hw9 hcell hfz hcr HgB Hset
                have hP9 := P9.out
                rw [Hx.out, HTl.out.back] at hP9
                have Q9 := Lib.hid hP9
                clear hP9 P9 Hx
                go_wp2_with fail
                refine (dholds_any C K0 M0 F T _ (K0 + M0) c4 _ _ (C3.out.later X9.out) Q9.out.gr (HTl.out.rows_ok (by omega))).mono ?_; rintro e w10 ⟨he, hb10⟩
                rw [HTl.out.holds] at he
                subst he
                have L10 := Lib.hid (L3.out.later (X9.out.trans (hb10.mono X9.out.size)))
                clear hb10 Q9 X9
                go_wp2_with fail
                refine (goes7_any _).mono ?_; rintro e wz ⟨rfl, hbz⟩
                have LZ := Lib.hid (L10.out.later hbz)
                clear hbz
                go_wp2_with fail
                go_ret
                exact ⟨rfl, LZ.out.bel⟩
              · have hz3 : ((M0 : Int) != 1) = true := by simp; omega
                have HM1 := Lib.hid hM1
                clear hM1
                go_upto_region 16 with (fail)
                clear l0 l1 O8
                obtain ⟨b, o, g, cc, hA4, hbg, hgB, hcr, hcb, hset⟩ := P8.out.at_ HTl.out.at2 (by rw [HTl.out.now]; omega)
                injection hA4 with hA4; injection hA4 with hA4 hA5; subst hA4; subst hA5
                rw [HTl.out.now] at hcr hcb
                obtain ⟨hcell, hfz⟩ := hcb p0 (by omega)
                obtain ⟨x, hx⟩ : ∃ x, x = (nowT K0 M0 a p0 ds mask).getD p0 0 := ⟨_, rfl⟩
                rw [← hx] at hcell
                have Hx := Lib.hid hx
                have Hset := Lib.hid (hset p0 (x ^^^ mask) (by rw [HTl.out.now]; omega))
                have HgB := Lib.hid hgB
                clear hx hset hcb hbg hgB
                go_wp2_with fail
                go_region
                have X9 := Lib.hid (Below.drew (X8.out.setCell (p := ⟨g, p0, none⟩) HgB.out (.int .u8 (bits .xor .u8 (x.toNat : Int) (mask.toNat : Int)))))
                have P9 := Lib.hid (Hset.out.later (Below.drew (Below.refl _ _)))
                rw [← xor_b] at P9
                obtain ⟨w9, hw9⟩ : ∃ y, y = (w8.setCell ⟨g, p0, none⟩ (.int .u8 (bits .xor .u8 (x.toNat : Int) (mask.toNat : Int)))).drew := ⟨_, rfl⟩
                rw [← hw9] at X9 P9 ⊢
                clear hw9 hcell hfz hcr HgB Hset
                have hP9 := P9.out
                rw [Hx.out, HTl.out.back] at hP9
                have Q9 := Lib.hid hP9
                clear hP9 P9 Hx
                go_wp2_with fail
                refine (dholds_any C K0 M0 F T _ (K0 + M0) c4 _ _ (C3.out.later X9.out) Q9.out.gr (HTl.out.rows_ok (by omega))).mono ?_; rintro e w10 ⟨he, hb10⟩
                rw [HTl.out.holds] at he
                subst he
                have L10 := Lib.hid (L3.out.later (X9.out.trans (hb10.mono X9.out.size)))
                clear hb10 Q9 X9
                go_wp2_with fail
                refine (goes7_any _).mono ?_; rintro e wz ⟨rfl, hbz⟩
                have LZ := Lib.hid (L10.out.later hbz)
                clear hbz
                go_wp2_with fail
                go_ret
                exact ⟨rfl, LZ.out.bel⟩
            · rw [HTl.out.offP haK] at hO
              have hq := hO.len
              rw [ncells_length, Nat.mul_one] at hq
              have hq : q7 = 1 := hq.symm
              subst hq
              have haKi : ¬ (a : Int) < (K0 : Int) := by omega
              have haKj : (K0 : Int) ≤ (a : Int) := by omega
              have O7 := Lib.hid hO
              clear hO haK
              go_wp2_with fail
              refine (dholds_any C K0 M0 F T _ (K0 + M0) c4 _ _ (C3.out.later X7.out) P7.out.gr (HTl.out.rows2_ok (by omega))).mono ?_; rintro e w8 ⟨he, hb8⟩
              rw [HTl.out.no] at he
              subst he
              have P8 := Lib.hid (P7.out.later hb8)
              have X8 := Lib.hid (X7.out.trans (hb8.mono X7.out.size))
              have O8 := Lib.hid (O7.out.below hb8 (Nat.le_refl _))
              clear hb8 P7 X7 O7
              obtain ⟨b8, o8, rfl, hc8⟩ := O8.out.at_ (k := 0) (by omega)
              have l0 := hc8 0 (.int .i64 (a : Int)) rfl
              rw [Nat.add_zero] at l0
              clear hc8
              by_cases hM1 : M0 = 1
              · have hz3 : ((1 : Int) != (M0 : Int)) = false := by simp [hM1]
                have HM1 := Lib.hid hM1
                clear hM1
                go_upto_region 16 with (fail)
                clear l0 O8
                obtain ⟨b, o, g, cc, hA4, hbg, hgB, hcr, hcb, hset⟩ := P8.out.at_ HTl.out.at2 (by rw [HTl.out.now]; omega)
                injection hA4 with hA4; injection hA4 with hA4 hA5; subst hA4; subst hA5
                rw [HTl.out.now] at hcr hcb
                obtain ⟨hcell, hfz⟩ := hcb p0 (by omega)
                obtain ⟨x, hx⟩ : ∃ x, x = (nowT K0 M0 a p0 ds mask).getD p0 0 := ⟨_, rfl⟩
                rw [← hx] at hcell
                have Hx := Lib.hid hx
                have Hset := Lib.hid (hset p0 (x ^^^ mask) (by rw [HTl.out.now]; omega))
                have HgB := Lib.hid hgB
                clear hx hset hcb hbg hgB
                go_wp2_with fail
                go_region
                have X9 := Lib.hid (Below.drew (X8.out.setCell (p := ⟨g, p0, none⟩) HgB.out (.int .u8 (bits .xor .u8 (x.toNat : Int) (mask.toNat : Int)))))
                have P9 := Lib.hid (Hset.out.later (Below.drew (Below.refl _ _)))
                rw [← xor_b] at P9
                obtain ⟨w9, hw9⟩ : ∃ y, y = (w8.setCell ⟨g, p0, none⟩ (.int .u8 (bits .xor .u8 (x.toNat : Int) (mask.toNat : Int)))).drew := ⟨_, rfl⟩
                rw [← hw9] at X9 P9 ⊢
                clear hw9 hcell hfz hcr HgB Hset
                have hP9 := P9.out
                rw [Hx.out, HTl.out.back] at hP9
                have Q9 := Lib.hid hP9
                clear hP9 P9 Hx
                go_wp2_with fail
                refine (dholds_any C K0 M0 F T _ (K0 + M0) c4 _ _ (C3.out.later X9.out) Q9.out.gr (HTl.out.rows_ok (by omega))).mono ?_; rintro e w10 ⟨he, hb10⟩
                rw [HTl.out.holds] at he
                subst he
                have L10 := Lib.hid (L3.out.later (X9.out.trans (hb10.mono X9.out.size)))
                clear hb10 Q9 X9
                go_wp2_with fail
                refine (goes7_any _).mono ?_; rintro e wz ⟨rfl, hbz⟩
                have LZ := Lib.hid (L10.out.later hbz)
                clear hbz
                go_wp2_with fail
                go_ret
                exact ⟨rfl, LZ.out.bel⟩
              · have hz3 : ((1 : Int) != (M0 : Int)) = true := by simp; omega
                have HM1 := Lib.hid hM1
                clear hM1
                go_upto_region 16 with (fail)
                clear l0 O8
                obtain ⟨b, o, g, cc, hA4, hbg, hgB, hcr, hcb, hset⟩ := P8.out.at_ HTl.out.at2 (by rw [HTl.out.now]; omega)
                injection hA4 with hA4; injection hA4 with hA4 hA5; subst hA4; subst hA5
                rw [HTl.out.now] at hcr hcb
                obtain ⟨hcell, hfz⟩ := hcb p0 (by omega)
                obtain ⟨x, hx⟩ : ∃ x, x = (nowT K0 M0 a p0 ds mask).getD p0 0 := ⟨_, rfl⟩
                rw [← hx] at hcell
                have Hx := Lib.hid hx
                have Hset := Lib.hid (hset p0 (x ^^^ mask) (by rw [HTl.out.now]; omega))
                have HgB := Lib.hid hgB
                clear hx hset hcb hbg hgB
                go_wp2_with fail
                go_region
                have X9 := Lib.hid (Below.drew (X8.out.setCell (p := ⟨g, p0, none⟩) HgB.out (.int .u8 (bits .xor .u8 (x.toNat : Int) (mask.toNat : Int)))))
                have P9 := Lib.hid (Hset.out.later (Below.drew (Below.refl _ _)))
                rw [← xor_b] at P9
                obtain ⟨w9, hw9⟩ : ∃ y, y = (w8.setCell ⟨g, p0, none⟩ (.int .u8 (bits .xor .u8 (x.toNat : Int) (mask.toNat : Int)))).drew := ⟨_, rfl⟩
                rw [← hw9] at X9 P9 ⊢
                clear hw9 hcell hfz hcr HgB Hset
                have hP9 := P9.out
                rw [Hx.out, HTl.out.back] at hP9
                have Q9 := Lib.hid hP9
                clear hP9 P9 Hx
                go_wp2_with fail
                refine (dholds_any C K0 M0 F T _ (K0 + M0) c4 _ _ (C3.out.later X9.out) Q9.out.gr (HTl.out.rows_ok (by omega))).mono ?_; rintro e w10 ⟨he, hb10⟩
                rw [HTl.out.holds] at he
                subst he
                have L10 := Lib.hid (L3.out.later (X9.out.trans (hb10.mono X9.out.size)))
                clear hb10 Q9 X9
                go_wp2_with fail
                refine (goes7_any _).mono ?_; rintro e wz ⟨rfl, hbz⟩
                have LZ := Lib.hid (L10.out.later hbz)
                clear hbz
                go_wp2_with fail
                go_ret
                exact ⟨rfl, LZ.out.bel⟩
  · have hmF := mayB_f hmay
    clear hmay
    go_enter Try.func6, Try.ntmps6
    go_wp2_with fail
    refine (new_any _).mono ?_; rintro e w1 ⟨rfl, hf, hb⟩
    obtain ⟨F, hF⟩ : ∃ F, F = w.heap.size + 1 := ⟨_, rfl⟩
    obtain ⟨T, hT⟩ : ∃ T, T = w.heap.size := ⟨_, rfl⟩
    rw [← hF] at hf ⊢
    rw [← hT] at hf
    have HT := Lib.hid (show w.heap.size ≤ T by omega)
    clear hF hT
    go_wp2_with fail
    refine (cnew_no F T k m hk hm hmF _ hf).mono ?_; rintro e w2 ⟨rfl, hf2, hr⟩
    have L2 := Lib.hid (Lw.of hb HT.out hr hf2)
    clear hf hb hf2 hr
    go_wp2_with fail
    refine (goes7_any _).mono ?_; rintro e wz ⟨rfl, hbz⟩
    have LZ := Lib.hid (L2.out.later hbz)
    clear hbz
    go_wp2_with fail
    go_ret
    exact ⟨rfl, LZ.out.bel⟩
end Go.Proofs.Ytjacdabhlnfbkaa

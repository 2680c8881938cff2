/-
  DecodeAny returns true, whatever its arguments. No condition.
-/
import Derived.Test.YtgoomiimlfdcmaaGreatDmf
import Derived.Test.YtgoomiimlfdcmaaGreatCce
namespace Go.Proofs.YtgoomiimlfdcmaaGreat
open Go.RowKit Go.Proofs
set_option linter.unusedVariables false

/-- Shards that a coder made of data, some of which are missing. -/
structure Miss (k m V : Nat) (ds : List (List UInt8)) (gone : List Int) : Prop where
  len : ds.length = k
  lev : levelB ds = true
  wid : (ds.getD 0 []).length = V
  k1 : 1 ≤ k
  v1 : 0 < V
  few : gone.length ≤ m
section
variable {k m V : Nat} {ds : List (List UInt8)} {gone : List Int}
theorem allL_getD (k : Nat) (ds : List (List UInt8)) (n i : Nat) (h : i < n) : (allL k ds n).getD i [] = shard k ds i := by simp [allL, h]
theorem Miss.at_ (h : Miss k m V ds gone) {n i : Nat} (hi : i < n) : (missL (allL k ds n) gone n).getD i [] = [] ∨ (missL (allL k ds n) gone n).getD i [] = shard k ds i := by
  rw [missL_getD _ _ _ _ hi, allL_getD _ _ _ _ hi]
  by_cases hm : ((i : Nat) : Int) ∈ gone
  · exact .inl (if_pos hm)
  · exact .inr (if_neg hm)
theorem Miss.full (h : Miss k m V ds gone) {n i : Nat} (hi : i < n) (hne : (missL (allL k ds n) gone n).getD i [] ≠ []) : (missL (allL k ds n) gone n).getD i [] = shard k ds i := (h.at_ hi).resolve_left hne
theorem Miss.there (h : Miss k m V ds gone) {n a : Nat} (ha : a < (thereL (missL (allL k ds n) gone n) n).length) : (missL (allL k ds n) gone n).getD ((thereL (missL (allL k ds n) gone n) n).getD a 0) [] = shard k ds ((thereL (missL (allL k ds n) gone n) n).getD a 0) := by
  have hp := thereL_pos ha
  exact h.full (thereL_lt ha) (fun e => by rw [e] at hp; exact absurd hp (by decide))
theorem Miss.len_there (h : Miss k m V ds gone) {n a : Nat} (ha : a < (thereL (missL (allL k ds n) gone n) n).length) : ((missL (allL k ds n) gone n).getD ((thereL (missL (allL k ds n) gone n) n).getD a 0) []).length = V := by
  rw [h.there ha, shard_length, h.wid]
theorem Miss.enough (h : Miss k m V ds gone) : k ≤ (thereL (missL (allL k ds (k + m)) gone (k + m)) (k + m)).length := by
  have := miss_count (allL k ds (k + m)) gone (k + m) (fun i hi => by rw [allL_getD _ _ _ _ hi, shard_length, h.wid]; exact h.v1)
  have := h.few
  omega
theorem Miss.right (h : Miss k m V ds gone) : rightX k m (missL (allL k ds (k + m)) gone (k + m)) = 0 := by
  have he := h.enough
  have hl : (missL (allL k ds (k + m)) gone (k + m)).length = k + m := missL_length _ _ _
  have hlv : levelT (missL (allL k ds (k + m)) gone (k + m)) = true := decide_eq_true fun a ha => by
    rw [hl] at ha ⊢
    have h1 := h.k1
    rw [h.len_there ha, h.len_there (by omega)]
  rw [rightX, if_neg (by rw [hl]; simp), if_neg (by rw [hlv]; decide), hl, if_neg (by omega)]
theorem Miss.data (h : Miss k m V ds gone) {X : Mx} (hX : Alike k k (mm k X (facM k ((thereL (missL (allL k ds (k + m)) gone (k + m)) (k + m)).take k))) one) :
    dataL k ((missL (allL k ds (k + m)) gone (k + m)).getD ((thereL (missL (allL k ds (k + m)) gone (k + m)) (k + m)).getD 0 0) []).length (solD k X (missL (allL k ds (k + m)) gone (k + m)) ((thereL (missL (allL k ds (k + m)) gone (k + m)) (k + m)).take k)) = ds := by
  have he := h.enough
  have h1 := h.k1
  rw [h.len_there (by omega)]
  exact data_back h.len h.lev h.wid hX fun a ha => by
    rw [take_getD ha]
    exact h.there (by omega)
theorem Miss.all (h : Miss k m V ds gone) (n : Nat) : fillL (missL (allL k ds n) gone n) (shard k ds) n = allL k ds n := by
  apply List.ext_getElem?
  intro i
  by_cases hi : i < n
  · have e2 : (allL k ds n)[i]? = some (shard k ds i) := by simp [allL, hi]
    rw [fillL_get _ _ _ _ (by rw [missL_length]; exact hi), e2]
    by_cases hz : ((missL (allL k ds n) gone n).getD i []).length = 0
    · rw [if_pos ⟨hi, hz⟩]
    · rw [if_neg (fun h => hz h.2), h.full hi (fun e => hz (by rw [e]; rfl))]
  · rw [List.getElem?_eq_none (by rw [fillL_length, missL_length]; omega), List.getElem?_eq_none (by rw [allL_length]; omega)]
theorem Miss.rows (h : Miss k m V ds gone) (hV : V ≤ 1048576) (n : Nat) : ∀ r ∈ allL k ds n, r.length ≤ 1048576 := fun r hr => by
  obtain ⟨i, _, rfl⟩ := List.mem_map.1 hr
  rw [shard_length, h.wid]
  exact hV
theorem Miss.rows2 (h : Miss k m V ds gone) (hV : V ≤ 1048576) (n : Nat) : ∀ r ∈ missL (allL k ds n) gone n, r.length ≤ 1048576 := fun r hr => by
  obtain ⟨i, hi, rfl⟩ := List.mem_map.1 hr
  by_cases hm : ((i : Nat) : Int) ∈ gone
  · rw [if_pos hm]; exact Nat.zero_le _
  · rw [if_neg hm, allL_getD _ _ _ _ (List.mem_range.1 hi), shard_length, h.wid]
    exact hV
end
theorem cut_miss (l : List UInt8) (k m V : Nat) (gone : List Int) (h1 : 1 ≤ k) (hV : 0 < V) (hg : gone.length ≤ m) : Miss k m V (cutL l V k) gone :=
  ⟨cutL_length _ _ _, by have := cut_even l V k; rw [evenB, Bool.and_eq_true] at this; exact this.2, by rw [cut_getD l V k 0 (by omega), cutR_length], h1, hV, hg⟩

set_option maxRecDepth 100000 in
set_option maxHeartbeats 3200000 in
theorem decodeAny_walk (k m : Int) (A : Option Addr) (c : Nat) (l : List UInt8) (Ag : Option Addr) (cg : Nat) (gone : List Int) (w : World) (hk : -9223372036854775808 ≤ k ∧ k < 9223372036854775808) (hm : -9223372036854775808 ≤ m ∧ m < 9223372036854775808) (hs : Sl w 1 A l.length c (cells l)) (hh : Sl w 1 Ag gone.length cg (icells gone)) :
    Calls Tryz.prog 5 #[.int .i64 k, .int .i64 m, .slice A l.length c, .slice Ag gone.length cg] w (SaysTrue w) := by
  obtain ⟨L, hL⟩ : ∃ L, L = l.length := ⟨_, rfl⟩
  obtain ⟨q, hq⟩ : ∃ q, q = gone.length := ⟨_, rfl⟩
  rw [← hL] at hs ⊢
  rw [← hq] at hh ⊢
  have hlim := hs.lim
  have hlimq := hh.lim
  unfold maxLen at hlim hlimq
  have HS := Lib.hid hs
  have HH := Lib.hid hh
  have HL := Lib.hid hL
  have HQ := Lib.hid hq
  clear hs hh hL hq
  by_cases hmay : 1 ≤ k ∧ 1 ≤ m ∧ k + m ≤ 255
  · obtain ⟨K0, hK0⟩ : ∃ x : Nat, k = (x : Int) := ⟨k.toNat, by omega⟩
    obtain ⟨M0, hM0⟩ : ∃ x : Nat, m = (x : Int) := ⟨m.toNat, by omega⟩
    subst hK0; subst hM0
    have hb1 : 1 ≤ K0 := by omega
    have hb2 : 1 ≤ M0 := by omega
    have hb3 : K0 + M0 ≤ 255 := by omega
    have hkw : IntKind.i64.wrap ((K0 : Int) + (M0 : Int)) = (K0 : Int) + (M0 : Int) := by rw [IntKind.wrap_i64]; omega
    clear hmay hk hm
    by_cases h24 : (24 : Int) < (K0 : Int) + (M0 : Int)
    · go_enter Tryz.func5, Tryz.ntmps5
      go_wp2_with fail
      refine (new_any _).mono ?_; rintro e w1 ⟨rfl, hf, hb⟩
      obtain ⟨F, hF⟩ : ∃ F, F = w.heap.size + 1 := ⟨_, rfl⟩
      obtain ⟨T, hT⟩ : ∃ T, T = w.heap.size := ⟨_, rfl⟩
      rw [← hF] at hf ⊢
      rw [← hT] at hf
      have HT := Lib.hid (show w.heap.size ≤ T by omega)
      clear hF hT
      go_wp2_with fail
      refine (cnew_at F T (K0 : Int) (M0 : Int) K0 M0 rfl rfl ⟨hb1, hb2, hb3⟩ _ hf).mono ?_; rintro e w2 ⟨C, rfl, hC, hr⟩
      have L2 := Lib.hid (Lw.of hb HT.out hr hC.fld)
      have C2 := Lib.hid hC
      clear hf hb hC hr
      go_wp2_with fail
      refine (decodes_any _).mono ?_; rintro e wz ⟨rfl, hbz⟩
      have LZ := Lib.hid (L2.out.later hbz)
      clear hbz
      go_wp2_with fail
      go_ret
      exact ⟨rfl, LZ.out.bel⟩
    · by_cases h2k : (2000 : Int) < (L : Int)
      · go_enter Tryz.func5, Tryz.ntmps5
        go_wp2_with fail
        refine (new_any _).mono ?_; rintro e w1 ⟨rfl, hf, hb⟩
        obtain ⟨F, hF⟩ : ∃ F, F = w.heap.size + 1 := ⟨_, rfl⟩
        obtain ⟨T, hT⟩ : ∃ T, T = w.heap.size := ⟨_, rfl⟩
        rw [← hF] at hf ⊢
        rw [← hT] at hf
        have HT := Lib.hid (show w.heap.size ≤ T by omega)
        clear hF hT
        go_wp2_with fail
        refine (cnew_at F T (K0 : Int) (M0 : Int) K0 M0 rfl rfl ⟨hb1, hb2, hb3⟩ _ hf).mono ?_; rintro e w2 ⟨C, rfl, hC, hr⟩
        have L2 := Lib.hid (Lw.of hb HT.out hr hC.fld)
        have C2 := Lib.hid hC
        clear hf hb hC hr
        go_wp2_with fail
        refine (decodes_any _).mono ?_; rintro e wz ⟨rfl, hbz⟩
        have LZ := Lib.hid (L2.out.later hbz)
        clear hbz
        go_wp2_with fail
        go_ret
        exact ⟨rfl, LZ.out.bel⟩
      · by_cases hgm : (M0 : Int) < (q : Int)
        · go_enter Tryz.func5, Tryz.ntmps5
          go_wp2_with fail
          refine (new_any _).mono ?_; rintro e w1 ⟨rfl, hf, hb⟩
          obtain ⟨F, hF⟩ : ∃ F, F = w.heap.size + 1 := ⟨_, rfl⟩
          obtain ⟨T, hT⟩ : ∃ T, T = w.heap.size := ⟨_, rfl⟩
          rw [← hF] at hf ⊢
          rw [← hT] at hf
          have HT := Lib.hid (show w.heap.size ≤ T by omega)
          clear hF hT
          go_wp2_with fail
          refine (cnew_at F T (K0 : Int) (M0 : Int) K0 M0 rfl rfl ⟨hb1, hb2, hb3⟩ _ hf).mono ?_; rintro e w2 ⟨C, rfl, hC, hr⟩
          have L2 := Lib.hid (Lw.of hb HT.out hr hC.fld)
          have C2 := Lib.hid hC
          clear hf hb hC hr
          go_wp2_with fail
          refine (decodes_any _).mono ?_; rintro e wz ⟨rfl, hbz⟩
          have LZ := Lib.hid (L2.out.later hbz)
          clear hbz
          go_wp2_with fail
          go_ret
          exact ⟨rfl, LZ.out.bel⟩
        · obtain ⟨Q0, hQ0⟩ : ∃ Q0, Q0 = L / K0 := ⟨_, rfl⟩
          obtain ⟨V, hV⟩ : ∃ V, V = Q0 + 1 := ⟨_, rfl⟩
          have hVL : V ≤ 2001 := by
            have := Nat.div_le_self L K0
            omega
          have hV1 : 1 ≤ V := by omega
          have hkV : L ≤ K0 * V := by
            rw [hV, hQ0, Nat.mul_add, Nat.mul_one]
            have h5 := Nat.div_add_mod L K0
            have h6 := Nat.mod_lt L (show K0 > 0 by omega)
            omega
          have hquo : ((L : Int).tdiv (K0 : Int)) = (Q0 : Int) := by rw [hQ0]; simp
          have hQb : Q0 ≤ 2000 := by omega
          have hVn : ((Q0 : Int) + 1).toNat = V := by omega
          have HVn := Lib.hid hVn
          have hV4 : (Q0 : Int) + 1 = (V : Int) := by omega
          have HV4 := Lib.hid hV4
          obtain ⟨N, hN⟩ : ∃ N, N = K0 + M0 := ⟨_, rfl⟩
          have hN24 : N ≤ 255 := by omega
          obtain ⟨ds, hds⟩ : ∃ ds, ds = cutL l V K0 := ⟨_, rfl⟩
          have hM : Miss K0 M0 V ds gone := by rw [hds]; exact cut_miss l K0 M0 V gone hb1 (by omega) (by rw [← HQ.out]; omega)
          have hdsW : ∀ r ∈ ds, r.length ≤ 1048576 := fun r hr => by rw [hds] at hr; rw [cut_rows l V K0 r hr]; omega
          have hfl : ds.flatten.length = K0 * V := by rw [hds]; exact cut_len l V K0
          have hback : ds.flatten.take L = l := by rw [hds, HL.out]; exact cut_back l V K0 (by rw [← HL.out]; exact hkV)
          have HM := Lib.hid hM
          have Hds := Lib.hid hds
          have HdsW := Lib.hid hdsW
          have Hfl := Lib.hid hfl
          have Hback := Lib.hid hback
          have HkV := Lib.hid hkV
          have HN := Lib.hid hN
          have HV := Lib.hid hV
          clear hM hds hdsW hfl hback hkV hN hV hQ0 hVn hV4
          go_enter Tryz.func5, Tryz.ntmps5
          go_wp2_with fail
          refine (new_any _).mono ?_; rintro e w1 ⟨rfl, hf, hb⟩
          obtain ⟨F, hF⟩ : ∃ F, F = w.heap.size + 1 := ⟨_, rfl⟩
          obtain ⟨T, hT⟩ : ∃ T, T = w.heap.size := ⟨_, rfl⟩
          rw [← hF] at hf ⊢
          rw [← hT] at hf
          have HT := Lib.hid (show w.heap.size ≤ T by omega)
          clear hF hT
          go_wp2_with fail
          refine (cnew_at F T (K0 : Int) (M0 : Int) K0 M0 rfl rfl ⟨hb1, hb2, hb3⟩ _ hf).mono ?_; rintro e w2 ⟨C, rfl, hC, hr⟩
          have L2 := Lib.hid (Lw.of hb HT.out hr hC.fld)
          have C2 := Lib.hid hC
          clear hf hb hC hr
          go_wp2_with fail
          have S2 := Lib.hid (HS.out.below L2.out.bel (Nat.le_refl _))
          have U2 := Lib.hid (HH.out.below L2.out.bel (Nat.le_refl _))
          have hsp := split_any C K0 M0 F T A L c l ((Q0 : Int) + 1) (by omega) (by omega) _ C2.out S2.out
          refine hsp.mono ?_; clear hsp; rintro e w3 ⟨hb3, hR⟩
          rcases hR with ⟨hno, _⟩ | ⟨_, hno, _⟩ | ⟨_, _, g3, rfl, hD⟩
          · exact absurd ⟨by omega, by omega⟩ hno
          · exact absurd hno (by rw [HV4.out]; have := HkV.out; have h5 : (L : Int) ≤ (K0 : Int) * (V : Int) := by rw [← Int.natCast_mul]; exact Int.ofNat_le.2 this
                                 omega)
          rw [HVn.out, ← Hds.out] at hD
          have D3 := Lib.hid hD
          clear hD
          have U3 := Lib.hid (U2.out.below hb3 (Nat.le_refl _))
          clear U2
          have L3 := Lib.hid (L2.out.later hb3)
          have C3 := Lib.hid (C2.out.later hb3)
          have S3 := Lib.hid (S2.out.below hb3 (Nat.le_refl _))
          clear hb3 L2 C2 S2
          go_wp2_with fail
          refine (all_any C K0 M0 F T (some ⟨g3, 0, none⟩) K0 K0 ds _ C3.out D3.out HdsW.out).mono ?_; rintro e w4 ⟨hb4, hR⟩
          rcases hR with ⟨hno, _⟩ | ⟨_, A4, c4, rfl, hP⟩
          · rw [evenB_of HM.out.len HM.out.lev] at hno; cases hno
          rw [← allL_eq K0 M0 ds HM.out.len HM.out.lev] at hP
          have P4 := Lib.hid hP
          clear hP
          have U4 := Lib.hid (U3.out.below hb4 (Nat.le_refl _))
          clear U3
          have L4 := Lib.hid (L3.out.later hb4)
          have C4 := Lib.hid (C3.out.later hb4)
          have S4 := Lib.hid (S3.out.below hb4 (Nat.le_refl _))
          have D4 := Lib.hid (D3.out.later hb4)
          clear hb4 L3 C3 S3 D3
          go_wp2_with fail
          have hms := missing_any A4 N c4 (allL K0 ds (K0 + M0)) Ag q cg gone _ (by rw [HN.out]; exact P4.out) U4.out (by omega) (HM.out.rows (by omega) _)
          rw [HN.out] at hms
          refine hms.mono ?_; clear hms; rintro e w5 ⟨⟨A5, c5, rfl, hQ⟩, hb5⟩
          have Q5 := Lib.hid hQ
          clear hQ U4
          have L5 := Lib.hid (L4.out.later hb5)
          have C5 := Lib.hid (C4.out.later hb5)
          have S5 := Lib.hid (S4.out.below hb5 (Nat.le_refl _))
          have D5 := Lib.hid (D4.out.later hb5)
          have P5 := Lib.hid (P4.out.later hb5)
          clear hb5 L4 C4 S4 D4 P4
          go_wp2_with fail
          refine (ddata_ok C K0 M0 F T A5 (K0 + M0) c5 _ _ C5.out Q5.out (HM.out.rows2 (by omega) _) (by omega)).mono ?_; rintro e w6 ⟨hR, hb6⟩
          rcases hR with ⟨hno, _⟩ | ⟨_, A6, c6, X6, hX6, rfl, hY⟩
          · exact absurd HM.out.right hno
          rw [HM.out.data hX6] at hY
          have Y6 := Lib.hid hY
          clear hY hX6
          have L6 := Lib.hid (L5.out.later hb6)
          have C6 := Lib.hid (C5.out.later hb6)
          have S6 := Lib.hid (S5.out.below hb6 (Nat.le_refl _))
          have D6 := Lib.hid (D5.out.later hb6)
          have P6 := Lib.hid (P5.out.later hb6)
          have Q6 := Lib.hid (Q5.out.later hb6)
          clear hb6 L5 C5 S5 D5 P5 Q5
          go_wp2_with fail
          refine (dall_ok C K0 M0 F T A5 (K0 + M0) c5 _ _ C6.out Q6.out (HM.out.rows2 (by omega) _) (by omega)).mono ?_; rintro e w7 ⟨hR, hb7⟩
          rcases hR with ⟨hno, _⟩ | ⟨_, A7, c7, X7, hX7, rfl, hZ⟩
          · exact absurd HM.out.right hno
          rw [HM.out.data hX7, HM.out.all] at hZ
          have Z7 := Lib.hid hZ
          clear hZ hX7 Q6
          have L7 := Lib.hid (L6.out.later hb7)
          have C7 := Lib.hid (C6.out.later hb7)
          have S7 := Lib.hid (S6.out.below hb7 (Nat.le_refl _))
          have D7 := Lib.hid (D6.out.later hb7)
          have P7 := Lib.hid (P6.out.later hb7)
          have Y7 := Lib.hid (Y6.out.later hb7)
          clear hb7 L6 C6 S6 D6 P6 Y6
          go_wp2_with fail
          refine (cjoin_any C K0 M0 F T A6 K0 c6 ds (L : Int) (by omega) (by omega) _ C7.out Y7.out HdsW.out).mono ?_; rintro e w8 ⟨hb8, hR⟩
          rcases hR with ⟨hno, _⟩ | ⟨_, A8, n8, c8, rfl, hJ⟩
          · exact absurd ⟨evenB_of HM.out.len HM.out.lev, by omega, by rw [Hfl.out]; exact Int.ofNat_le.2 HkV.out⟩ hno
          rw [Int.toNat_natCast, Hback.out] at hJ
          have Z8 := Lib.hid (Z7.out.later hb8)
          have J8 := Lib.hid hJ
          clear hJ Z7
          have L8 := Lib.hid (L7.out.later hb8)
          have C8 := Lib.hid (C7.out.later hb8)
          have S8 := Lib.hid (S7.out.below hb8 (Nat.le_refl _))
          have D8 := Lib.hid (D7.out.later hb8)
          have P8 := Lib.hid (P7.out.later hb8)
          have Y8 := Lib.hid (Y7.out.later hb8)
          clear hb8 L7 C7 S7 D7 P7 Y7
          go_wp2_with fail
          refine (rsame5_any _ _ _ _ _ _ _ _ _ Y8.out D8.out).mono ?_; rintro e w9 ⟨rfl, hb9⟩
          rw [decide_eq_true rfl]
          have Z9 := Lib.hid (Z8.out.later hb9)
          have J9 := Lib.hid (J8.out.below hb9 (Nat.le_refl _))
          clear Z8 J8 Y8 D8
          have L9 := Lib.hid (L8.out.later hb9)
          have C9 := Lib.hid (C8.out.later hb9)
          have S9 := Lib.hid (S8.out.below hb9 (Nat.le_refl _))
          have P9 := Lib.hid (P8.out.later hb9)
          clear hb9 L8 C8 S8 P8
          go_wp2_with fail
          refine (rsame5_any _ _ _ _ _ _ _ _ _ Z9.out P9.out).mono ?_; rintro e w10 ⟨rfl, hb10⟩
          rw [decide_eq_true rfl]
          have k1 := str_of (J9.out.below hb10 (Nat.le_refl _))
          clear J9 Z9 P9
          have k2 := str_of (S9.out.below hb10 (Nat.le_refl _))
          clear S9
          have L10 := Lib.hid (L9.out.later hb10)
          have C10 := Lib.hid (C9.out.later hb10)
          clear hb10 L9 C9
          go_wp2_with fail
          refine (decodes_any _).mono ?_; rintro e wz ⟨rfl, hbz⟩
          have LZ := Lib.hid (L10.out.later hbz)
          clear hbz
          go_wp2_with fail
          go_ret
          exact ⟨rfl, LZ.out.bel⟩
  · have hmF := mayB_f hmay
    clear hmay
    go_enter Tryz.func5, Tryz.ntmps5
    go_wp2_with fail
    refine (new_any _).mono ?_; rintro e w1 ⟨rfl, hf, hb⟩
    obtain ⟨F, hF⟩ : ∃ F, F = w.heap.size + 1 := ⟨_, rfl⟩
    obtain ⟨T, hT⟩ : ∃ T, T = w.heap.size := ⟨_, rfl⟩
    rw [← hF] at hf ⊢
    rw [← hT] at hf
    have HT := Lib.hid (show w.heap.size ≤ T by omega)
    clear hF hT
    go_wp2_with fail
    refine (cnew_no F T k m hk hm hmF _ hf).mono ?_; rintro e w2 ⟨rfl, hf2, hr⟩
    have L2 := Lib.hid (Lw.of hb HT.out hr hf2)
    clear hf hb hf2 hr
    go_wp2_with fail
    refine (decodes_any _).mono ?_; rintro e wz ⟨rfl, hbz⟩
    have LZ := Lib.hid (L2.out.later hbz)
    clear hbz
    go_wp2_with fail
    go_ret
    exact ⟨rfl, LZ.out.bel⟩
end Go.Proofs.YtgoomiimlfdcmaaGreat

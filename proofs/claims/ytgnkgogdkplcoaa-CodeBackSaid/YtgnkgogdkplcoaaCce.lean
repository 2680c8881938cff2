/-
  CodeBack returns true, whatever its arguments. No condition.
-/
import Derived.Test.YtgnkgogdkplcoaaCcd
namespace Go.Proofs.Ytgnkgogdkplcoaa
open Go.RowKit Go.Proofs
set_option linter.unusedVariables false

theorem flat_cut (l : List UInt8) (V : Nat) : ∀ j, (cutL l V j).flatten = rowL (j * V) fun p => l.getD p 0
  | 0 => by simp [cutL, rowL]
  | j + 1 => by
    rw [← cutL_next, List.flatten_append, flat_cut l V j, show [cutR l V j].flatten = cutR l V j by simp, cutR, rowL_append, Nat.add_mul, Nat.one_mul]
    apply rowL_congr
    intro p hp
    by_cases h : p < j * V
    · rw [if_pos h]
    · rw [if_neg h, show j * V + (p - j * V) = p by omega]
theorem cut_back (l : List UInt8) (V k : Nat) (h : l.length ≤ k * V) : (cutL l V k).flatten.take l.length = l := by
  rw [flat_cut]
  apply List.ext_getElem?
  intro p
  rw [List.getElem?_take]
  split
  · rename_i hp
    rw [rowL_get _ _ _ (by omega)]
    simp [hp]
  · rename_i hp
    rw [List.getElem?_eq_none (by omega)]
theorem cut_len (l : List UInt8) (V k : Nat) : (cutL l V k).flatten.length = k * V := by rw [flat_cut, rowL_length]
theorem cut_getD (l : List UInt8) (V k j : Nat) (h : j < k) : (cutL l V k).getD j [] = cutR l V j := by simp [cutL, h]
theorem cut_even (l : List UInt8) (V k : Nat) : evenB (cutL l V k) (k : Int) = true := by
  rw [evenB, cutL_length, decide_eq_true rfl, Bool.true_and]
  refine decide_eq_true fun j hj => ?_
  rw [cutL_length] at hj
  rw [cut_getD l V k j hj, cut_getD l V k 0 (by omega), cutR_length, cutR_length]
theorem cut_rows (l : List UInt8) (V k : Nat) : ∀ r ∈ cutL l V k, r.length = V := by
  intro r hr
  obtain ⟨j, _, rfl⟩ := List.mem_map.1 hr
  exact cutR_length _ _ _

set_option maxRecDepth 100000 in
set_option maxHeartbeats 3200000 in
theorem codeBack_walk (k : Int) (B : Option Addr) (p : Nat) (l : List UInt8) (W : Int) (w : World) (hk : -9223372036854775808 ≤ k ∧ k < 9223372036854775808) (hW : -9223372036854775808 ≤ W ∧ W < 9223372036854775808) (hl : Sl w 1 B l.length p (cells l)) :
    Calls Try.prog 6 #[.int .i64 k, .slice B l.length p, .int .i64 W] w (SaysTrue w) := by
  have hliml := hl.lim
  unfold maxLen at hliml
  obtain ⟨hW1, hW2⟩ := hW
  obtain ⟨n, hn⟩ : ∃ n, n = l.length := ⟨_, rfl⟩
  rw [← hn] at hliml hl ⊢
  have Hn := Lib.hid hn; clear hn
  have Hl := Lib.hid hl; clear hl
  by_cases hmay : 1 ≤ k ∧ (1 : Int) ≤ 1 ∧ k + 1 ≤ 255
  · obtain ⟨K0, hK0⟩ : ∃ x : Nat, k = (x : Int) := ⟨k.toNat, by omega⟩
    subst hK0
    have hb1 : 1 ≤ K0 := by omega
    have hb3 : K0 + 1 ≤ 255 := by omega
    clear hmay hk
    by_cases h3k : (3000 : Int) < (n : Int)
    · go_enter Try.func6, Try.ntmps6
      go_wp2_with fail
      refine (new_any _).mono ?_; rintro e w1 ⟨rfl, hf, hb⟩
      obtain ⟨F, hF⟩ : ∃ F, F = w.heap.size + 1 := ⟨_, rfl⟩
      obtain ⟨T, hT⟩ : ∃ T, T = w.heap.size := ⟨_, rfl⟩
      rw [← hF] at hf ⊢
      rw [← hT] at hf
      have HT := Lib.hid (show w.heap.size ≤ T by omega)
      clear hF hT
      go_wp2_with fail
      refine (cnew_at F T (K0 : Int) 1 K0 1 rfl rfl ⟨hb1, by decide, hb3⟩ _ hf).mono ?_; rintro e w2 ⟨C, rfl, hC, hr⟩
      have L2 := Lib.hid (Lw.of hb HT.out hr hC.fld)
      have C2 := Lib.hid hC
      clear hf hb hC hr
      go_wp2_with fail
      refine (codes_any _).mono ?_; rintro e wz ⟨rfl, hbz⟩
      have LZ := Lib.hid (L2.out.later hbz)
      clear hbz
      go_wp2_with fail
      go_ret
      exact ⟨rfl, LZ.out.bel⟩
    · by_cases hlo : W < 1
      · go_enter Try.func6, Try.ntmps6
        go_wp2_with fail
        refine (new_any _).mono ?_; rintro e w1 ⟨rfl, hf, hb⟩
        obtain ⟨F, hF⟩ : ∃ F, F = w.heap.size + 1 := ⟨_, rfl⟩
        obtain ⟨T, hT⟩ : ∃ T, T = w.heap.size := ⟨_, rfl⟩
        rw [← hF] at hf ⊢
        rw [← hT] at hf
        have HT := Lib.hid (show w.heap.size ≤ T by omega)
        clear hF hT
        go_wp2_with fail
        refine (cnew_at F T (K0 : Int) 1 K0 1 rfl rfl ⟨hb1, by decide, hb3⟩ _ hf).mono ?_; rintro e w2 ⟨C, rfl, hC, hr⟩
        have L2 := Lib.hid (Lw.of hb HT.out hr hC.fld)
        have C2 := Lib.hid hC
        clear hf hb hC hr
        go_wp2_with fail
        refine (codes_any _).mono ?_; rintro e wz ⟨rfl, hbz⟩
        have LZ := Lib.hid (L2.out.later hbz)
        clear hbz
        go_wp2_with fail
        go_ret
        exact ⟨rfl, LZ.out.bel⟩
      · by_cases hhi : 300 < W
        · go_enter Try.func6, Try.ntmps6
          go_wp2_with fail
          refine (new_any _).mono ?_; rintro e w1 ⟨rfl, hf, hb⟩
          obtain ⟨F, hF⟩ : ∃ F, F = w.heap.size + 1 := ⟨_, rfl⟩
          obtain ⟨T, hT⟩ : ∃ T, T = w.heap.size := ⟨_, rfl⟩
          rw [← hF] at hf ⊢
          rw [← hT] at hf
          have HT := Lib.hid (show w.heap.size ≤ T by omega)
          clear hF hT
          go_wp2_with fail
          refine (cnew_at F T (K0 : Int) 1 K0 1 rfl rfl ⟨hb1, by decide, hb3⟩ _ hf).mono ?_; rintro e w2 ⟨C, rfl, hC, hr⟩
          have L2 := Lib.hid (Lw.of hb HT.out hr hC.fld)
          have C2 := Lib.hid hC
          clear hf hb hC hr
          go_wp2_with fail
          refine (codes_any _).mono ?_; rintro e wz ⟨rfl, hbz⟩
          have LZ := Lib.hid (L2.out.later hbz)
          clear hbz
          go_wp2_with fail
          go_ret
          exact ⟨rfl, LZ.out.bel⟩
        · obtain ⟨V, hWV⟩ : ∃ V : Nat, W = (V : Int) := ⟨W.toNat, by omega⟩
          have hVn : V ≤ 300 := by omega
          have hkV : K0 * V ≤ 255 * 300 := Nat.mul_le_mul (by omega) hVn
          obtain ⟨KV, hKV⟩ : ∃ KV, KV = K0 * V := ⟨_, rfl⟩
          have hKVi : (K0 : Int) * W = (KV : Int) := by rw [hKV, hWV]; simp
          rw [← hKV] at hkV
          replace hkV : KV ≤ 76500 := by omega
          have HKV := Lib.hid hKV; clear hKV
          have HWV := Lib.hid hWV; clear hWV
          have hn3 : n ≤ 3000 := by omega
          by_cases hbig : KV < n
          · go_enter Try.func6, Try.ntmps6
            go_wp2_with fail
            refine (new_any _).mono ?_; rintro e w1 ⟨rfl, hf, hb⟩
            obtain ⟨F, hF⟩ : ∃ F, F = w.heap.size + 1 := ⟨_, rfl⟩
            obtain ⟨T, hT⟩ : ∃ T, T = w.heap.size := ⟨_, rfl⟩
            rw [← hF] at hf ⊢
            rw [← hT] at hf
            have HT := Lib.hid (show w.heap.size ≤ T by omega)
            clear hF hT
            go_wp2_with fail
            refine (cnew_at F T (K0 : Int) 1 K0 1 rfl rfl ⟨hb1, by decide, hb3⟩ _ hf).mono ?_; rintro e w2 ⟨C, rfl, hC, hr⟩
            have L2 := Lib.hid (Lw.of hb HT.out hr hC.fld)
            have C2 := Lib.hid hC
            clear hf hb hC hr
            go_wp2_with fail
            have B2 := Lib.hid (Hl.out.below L2.out.bel (Nat.le_refl _))
            refine (split_any C K0 1 F T B n p l W hW1 hW2 _ C2.out B2.out).mono ?_; rintro e w5 ⟨hb5, hR⟩
            have L5 := Lib.hid (L2.out.later hb5)
            clear hb5 L2 C2 B2
            rcases hR with ⟨h1, _⟩ | ⟨h1, h2, rfl⟩ | ⟨h1, h2, _⟩
            · exact absurd ⟨by omega, by omega⟩ h1
            case inr.inr => exfalso; omega
            clear h1 h2
            have hbi : (KV : Int) < (n : Int) := by omega
            go_wp2_with fail
            refine (codes_any _).mono ?_; rintro e wz ⟨rfl, hbz⟩
            have LZ := Lib.hid (L5.out.later hbz)
            clear hbz
            go_wp2_with fail
            go_ret
            exact ⟨rfl, LZ.out.bel⟩
          · go_enter Try.func6, Try.ntmps6
            go_wp2_with fail
            refine (new_any _).mono ?_; rintro e w1 ⟨rfl, hf, hb⟩
            obtain ⟨F, hF⟩ : ∃ F, F = w.heap.size + 1 := ⟨_, rfl⟩
            obtain ⟨T, hT⟩ : ∃ T, T = w.heap.size := ⟨_, rfl⟩
            rw [← hF] at hf ⊢
            rw [← hT] at hf
            have HT := Lib.hid (show w.heap.size ≤ T by omega)
            clear hF hT
            go_wp2_with fail
            refine (cnew_at F T (K0 : Int) 1 K0 1 rfl rfl ⟨hb1, by decide, hb3⟩ _ hf).mono ?_; rintro e w2 ⟨C, rfl, hC, hr⟩
            have L2 := Lib.hid (Lw.of hb HT.out hr hC.fld)
            have C2 := Lib.hid hC
            clear hf hb hC hr
            go_wp2_with fail
            have B2 := Lib.hid (Hl.out.below L2.out.bel (Nat.le_refl _))
            refine (split_any C K0 1 F T B n p l W hW1 hW2 _ C2.out B2.out).mono ?_; rintro e w5 ⟨hb5, hR⟩
            have L5 := Lib.hid (L2.out.later hb5)
            have C5 := Lib.hid (C2.out.later hb5)
            have B5 := Lib.hid (B2.out.below hb5 (Nat.le_refl _))
            clear hb5 L2 C2 B2
            rcases hR with ⟨h1, _⟩ | ⟨h1, h2, _⟩ | ⟨h1, h2, g, rfl, hg⟩
            · exact absurd ⟨by omega, by omega⟩ h1
            · exfalso; omega
            clear h1 h2
            rw [show W.toNat = V by rw [HWV.out]; rfl] at hg
            have hev := cut_even l V K0
            have hfl := cut_len l V K0
            have hback := cut_back l V K0 (by rw [← Hn.out, ← HKV.out]; omega)
            have hrow : ∀ r ∈ cutL l V K0, r.length ≤ 1048576 := fun r hr => by rw [cut_rows l V K0 r hr]; omega
            obtain ⟨cl, hcl⟩ : ∃ x, x = cutL l V K0 := ⟨_, rfl⟩
            rw [← hcl] at hg hev hfl hback hrow
            rw [← HKV.out] at hfl
            rw [← Hn.out] at hback
            clear hcl
            have G5 := Lib.hid hg
            have Hev := Lib.hid hev
            have Hfl := Lib.hid hfl
            have Hback := Lib.hid hback
            have Hrow := Lib.hid hrow
            clear hg hev hfl hback hrow
            go_wp2_with fail
            refine (cjoin_any C K0 1 F T (some ⟨g, 0, none⟩) K0 K0 cl (n : Int) (by omega) (by omega) _ C5.out G5.out Hrow.out).mono ?_; rintro e w6 ⟨hb6, hR⟩
            rcases hR with ⟨hno, _⟩ | ⟨_, A6, n6, c6, rfl, hs6⟩
            · exact absurd ⟨Hev.out, by omega, by rw [Hfl.out]; omega⟩ hno
            rw [Int.toNat_natCast, Hback.out] at hs6
            have L6 := Lib.hid (L5.out.later hb6)
            have C6 := Lib.hid (C5.out.later hb6)
            have G6 := Lib.hid (G5.out.later hb6)
            have B6 := Lib.hid (B5.out.below hb6 (Nat.le_refl _))
            have S6 := Lib.hid hs6
            clear hb6 hs6 L5 C5 G5 B5
            go_wp2_with fail
            refine (cjoin_any C K0 1 F T (some ⟨g, 0, none⟩) K0 K0 cl (KV : Int) (by omega) (by omega) _ C6.out G6.out Hrow.out).mono ?_; rintro e w7 ⟨hb7, hR⟩
            rcases hR with ⟨hno, _⟩ | ⟨_, A7, n7, c7, rfl, hs7⟩
            · exact absurd ⟨Hev.out, by omega, by rw [Hfl.out]; omega⟩ hno
            have hn7 : n7 = KV := by
              have := hs7.len
              rw [cells_length, Int.toNat_natCast, List.length_take, Hfl.out] at this
              omega
            subst hn7
            have L7 := Lib.hid (L6.out.later hb7)
            have k1 := str_of (S6.out.below hb7 (Nat.le_refl _))
            have k2 := str_of (B6.out.below hb7 (Nat.le_refl _))
            clear hb7 hs7 L6 C6 G6 B6
            go_wp2_with fail
            refine (codes_any _).mono ?_; rintro e wz ⟨rfl, hbz⟩
            have LZ := Lib.hid (L7.out.later hbz)
            clear hbz
            go_wp2_with fail
            go_ret
            exact ⟨rfl, LZ.out.bel⟩
  · have hno : mayB k 1 = false := mayB_f hmay
    have Hno := Lib.hid hno; clear hno hmay
    go_enter Try.func6, Try.ntmps6
    go_wp2_with fail
    refine (new_any _).mono ?_; rintro e w1 ⟨rfl, hf, hb⟩
    obtain ⟨F, hF⟩ : ∃ F, F = w.heap.size + 1 := ⟨_, rfl⟩
    obtain ⟨T, hT⟩ : ∃ T, T = w.heap.size := ⟨_, rfl⟩
    rw [← hF] at hf ⊢
    rw [← hT] at hf
    have HT := Lib.hid (show w.heap.size ≤ T by omega)
    clear hF hT
    go_wp2_with fail
    refine (cnew_no F T k 1 hk (by decide) Hno.out _ hf).mono ?_; rintro e w2 ⟨rfl, hf2, hr⟩
    have L2 := Lib.hid (Lw.of hb HT.out hr hf2)
    clear hf hb hf2 hr
    go_wp2_with fail
    refine (codes_any _).mono ?_; rintro e wz ⟨rfl, hbz⟩
    have LZ := Lib.hid (L2.out.later hbz)
    clear hbz
    go_wp2_with fail
    go_ret
    exact ⟨rfl, LZ.out.bel⟩
end Go.Proofs.Ytgnkgogdkplcoaa

/-
  The contract of the document's solve of layer 6. Condition: the equations have one solution. (Written by gen_dkh.py.)
-/
import Derived.Test.YtgoomiimlfdcmaaGreatDkg
import Derived.Test.YtgoomiimlfdcmaaGreatDlh
import Derived.Test.YtgoomiimlfdcmaaGreatCba
import Derived.Deep.CutBlock
namespace Go.Proofs.YtgoomiimlfdcmaaGreat
open Go.RowKit Go.Proofs
set_option linter.unusedVariables false

theorem eqs_slices {w : World} {k W : Nat} {M : Mx} {xs : List Value} (hl : xs.length = k * 2) (hr : ∀ a, a < k → ∃ B d B2 d2, xs[a * 2]? = some (Value.slice B k d) ∧ xs[a * 2 + 1]? = some (Value.slice B2 W d2) ∧ Sl w 1 B k d (cells (rowL k (M a))) ∧ Sl w 1 B2 W d2 (cells (rowL W fun p => M a (k + p)))) : ∀ u ∈ xs, ∃ a n c, u = Value.slice a n c := by
  intro u hu
  obtain ⟨i, hi, rfl⟩ := List.mem_iff_getElem.1 hu
  obtain ⟨B, d, B2, d2, h1, h2, _, _⟩ := hr (i / 2) (by omega)
  rcases Nat.mod_two_eq_zero_or_one i with h | h
  · rw [show i / 2 * 2 = i by omega, List.getElem?_eq_getElem hi] at h1
    injection h1 with h1
    exact ⟨_, _, _, h1⟩
  · rw [show i / 2 * 2 + 1 = i by omega, List.getElem?_eq_getElem hi] at h2
    injection h2 with h2
    exact ⟨_, _, _, h2⟩

/-- The rows from q on; nothing ahead. -/
def outL (k W : Nat) (X : Mx) (q : Nat) : List (List UInt8) := (List.range k).map fun i => if q ≤ i then rowL W (X i) else []
theorem outL_all (k W : Nat) (X : Mx) : outL k W X k = List.replicate k [] := by
  apply List.ext_getElem?
  intro i
  by_cases h : i < k
  · simp [outL, h, show ¬ k ≤ i by omega]
  · rw [List.getElem?_eq_none (by simp [outL]; omega), List.getElem?_eq_none (by simp; omega)]
theorem outL_set (k W : Nat) (X : Mx) (q : Nat) (h : q < k) : (outL k W X (q + 1)).set q (rowL W (X q)) = outL k W X q := by
  apply List.ext_getElem?
  intro i
  by_cases hi : i < k
  · rw [List.getElem?_set]
    by_cases hq : q = i
    · subst hq
      simp [outL, hi]
    · have : (q + 1 ≤ i) = (q ≤ i) := by apply propext; omega
      simp [outL, hi, hq, this]
  · rw [List.getElem?_eq_none (by simp [outL]; omega), List.getElem?_eq_none (by simp [outL]; omega)]
theorem Fil.nils (w : World) (k : Nat) : Fil (w.alloc (.cells (madeCells #[.slice none 0 0] k) 39)) w.heap.size k (madeCells #[.slice none 0 0] k) (List.replicate k []) :=
  ⟨heap_alloc_new w _, by rw [size_madeCells], by simp, fun i r h => by
    have hi : i < k := by
      rcases Nat.lt_or_ge i k with h' | h'
      · exact h'
      · rw [List.getElem?_eq_none (by simpa using h')] at h
        cases h
    rw [List.getElem?_replicate, if_pos hi] at h
    injection h with h
    subst h
    refine ⟨none, 0, ?_, Sl.nil _ 1 0 (by decide), fun b o hn => absurd hn (by decide)⟩
    rw [← Array.getElem?_toList, toList_madeCells_one, List.getElem?_replicate, if_pos hi]
    rfl⟩
theorem Fil.off {w : World} {g m : Nat} {cur : Array Value} {rs : List (List UInt8)} (h : Fil w g m cur rs) (hl : rs.length = m) {A : Option Addr} {n c : Nat} {l : List UInt8} (hs : Sl w 1 A n c (cells l)) {b o : Nat} (hn : 0 < n) (hA : A = some ⟨b, o, none⟩) : b ≠ g := by
  rintro rfl
  obtain ⟨b', o', e, hc⟩ := hs.at_ hn
  rw [hA] at e
  injection e with e
  injection e with e1 e2
  subst e1; subst e2
  have hll := hs.len
  rw [cells_length, Nat.mul_one] at hll
  have h0 := hc 0 _ (cells_get l 0 (by omega))
  rw [cell_of_row _ _ _ _ _ _ h.row, Nat.add_zero] at h0
  have ho : o < rs.length := by
    rw [hl, ← h.size]
    rcases Nat.lt_or_ge o cur.size with h' | h'
    · exact h'
    · rw [Array.getElem?_eq_none h'] at h0
      cases h0
  obtain ⟨x, y, e, _⟩ := h.rows o _ (List.getElem?_eq_getElem ho)
  rw [e] at h0
  injection h0 with h0
  cases h0
theorem Fil.frE {w w' : World} {g go m k W : Nat} {M : Mx} {cur : Array Value} {rs : List (List UInt8)} (h : Fil w go m cur rs) (E : EqsAt w g k W M) (hne : go ≠ g) (hf : Fr (fun k => k = g) w w') : Fil w' go m cur rs :=
  ⟨hf.row_some h.row hne, h.size, h.le, fun i r hi => by
    obtain ⟨A, c, h1, h2, h3⟩ := h.rows i r hi
    exact ⟨A, c, h1, h2.fr hf (fun b o hn e hb => E.off h2 hn e hb), h3⟩⟩
theorem EqsAt.frF {w w' : World} {g go m k W : Nat} {M : Mx} {cur : Array Value} {rs : List (List UInt8)} (h : EqsAt w g k W M) (F : Fil w go m cur rs) (hl : rs.length = m) (hne : go ≠ g) (hf : Fr (fun k => k = go) w w') : EqsAt w' g k W M := by
  obtain ⟨cu, hg, hs, ha, hr⟩ := h.ex
  refine ⟨cu, hf.row_some hg (fun e => hne e.symm), hs, ha, fun a hak => ?_⟩
  obtain ⟨A, c, A2, c2, h1, h2, h3, h4⟩ := hr a hak
  exact ⟨A, c, A2, c2, h1, h2, h3.fr hf (fun b o hn e hb => F.off hl h3 hn e hb), h4.fr hf (fun b o hn e hb => F.off hl h4 hn e hb)⟩

set_option maxRecDepth 20000 in
set_option maxHeartbeats 6400000 in
theorem solve_any (k W : Nat) (hk1 : 1 ≤ k) (hk : k ≤ 255) (hW : W ≤ 1048576) (A : Option Addr) (c : Nat) (M X : Mx) (xs : List Value) (w : World) (hs : Sl w 2 A k c xs)
    (hr : ∀ a, a < k → ∃ B d B2 d2, xs[a * 2]? = some (Value.slice B k d) ∧ xs[a * 2 + 1]? = some (Value.slice B2 W d2) ∧ Sl w 1 B k d (cells (rowL k (M a))) ∧ Sl w 1 B2 W d2 (cells (rowL W fun p => M a (k + p)))) (hI : Inj k M) (hX : Sol k W X M) :
    Calls Tryz.prog 32 #[.slice A k c] w fun e w' => (∃ g, e = .returned (.slice (some ⟨g, 0, none⟩) k k) ∧ Gr w' (some ⟨g, 0, none⟩) k k ((List.range k).map fun j => rowL W (X j))) ∧ Below w.heap.size w w' := by
  have hb0 : Below w.heap.size w (w.alloc (.cells #[] 83)) := (Below.refl _ _).alloc (Nat.le_refl _) _
  have hsl := eqs_slices (by have := hs.len; exact this) hr
  obtain ⟨cap, cur, w1, hrun, hb1, hcap1, hcap2, hrow, hsz, hall, hcur⟩ := run_append_eqs (B := some ⟨w.heap.size, 0, none⟩) (hs.below hb0 (Nat.le_refl _)) hsl hk1 hk 81
  have hbb := hb0.trans (hb1.mono hb0.size)
  have E0 := Lib.hid (show EqsAt w1 (w.alloc (.cells #[] 83)).heap.size k W M from ⟨cur, hrow, hsz, hall, fun a ha => by
    obtain ⟨B, d, B2, d2, h1, h2, h3, h4⟩ := hr a ha
    exact ⟨B, d, B2, d2, by rw [hcur _ (by omega)]; exact h1, by rw [hcur _ (by omega)]; exact h2, h3.below hbb (Nat.le_refl _), h4.below hbb (Nat.le_refl _)⟩⟩)
  have HB := Lib.hid hbb
  have HI := Lib.hid hI
  have HX := Lib.hid hX
  have hcs := hs.cap
  have hct := hs.top
  unfold maxLen at hcap2 hct
  clear hbb hb1 hrow hall hcur hr hs hsl hsz hI hX
  go_enter Tryz.func32, Tryz.ntmps32
  go_wp2_with (at_builtin; refine Lib.wpList_append_run _ rfl _ _ _ _ rfl _ _ rfl rfl _ _ hrun ?_)
  clear hrun
  go_upto_region 3 with (fail)
  obtain ⟨g, hg⟩ : ∃ g, g = w.heap.size + 1 := ⟨_, rfl⟩
  have hgw : w.heap.size ≤ g := by omega
  rw [show (w.alloc (.cells #[] 83)).heap.size = w.heap.size + 1 by simp, ← hg] at E0
  rw [← hg]
  clear hg hb0
  go_wp2_with fail
  go_loopw [5] (fun jv wr => ∃ (j : Nat) (Mj : Mx), j ≤ k ∧ jv = .int .i64 (j : Int) ∧ EqsAt wr g k W Mj ∧ Ut j Mj ∧ Tl k j Mj ∧ Sol k W X Mj ∧ Below w.heap.size w wr) (fun jv _ => k - (intOf jv).toNat)
  case atStart => exact ⟨0, M, by omega, rfl, E0.out, fun a ha => absurd ha (by omega), Tl.start HI.out, HX.out, HB.out⟩
  case round =>
    obtain ⟨wo, rfl⟩ : ∃ x, x = wr := ⟨_, rfl⟩
    obtain ⟨j, Mj, hj, rfl, hE, hU, hT, hS, hb⟩ := hrel
    have E := Lib.hid hE; have U := Lib.hid hU; have T := Lib.hid hT; have So := Lib.hid hS; have Hb := Lib.hid hb
    have hszo := hb.size
    clear hE hU hT hS hb E0 HB
    by_cases hlt : j < k
    · obtain ⟨pv, hpv⟩ := T.out.pivot hlt
      have Hpv := Lib.hid hpv; clear hpv
      have hji : (j : Int) < (k : Int) := by omega
      go_upto_block 2 with fail
      go_cut [6] from 25 to 41 (fun av wx => ∃ a : Nat, j ≤ a ∧ a < k ∧ av = .int .i64 (a : Int) ∧ Mj a j ≠ 0 ∧ wx = wo)
      case first =>
        go_wp2_with fail
        go_loopw [6] (fun av wr => ∃ a : Nat, j ≤ a ∧ a < k ∧ av = .int .i64 (a : Int) ∧ (∀ b, j ≤ b → b < a → Mj b j = 0) ∧ wr = wo) (fun av _ => k - (intOf av).toNat)
        case atStart => exact ⟨j, by omega, hlt, rfl, fun b h1 h2 => absurd h1 (by omega), rfl⟩
        case round =>
          obtain ⟨a, haj, hak, rfl, hz, rfl⟩ := hrel
          have Hz := Lib.hid hz; clear hz
          by_cases hlast : a < k - 1
          · have hlasti : (a : Int) < (k : Int) - 1 := by omega
            obtain ⟨B, d, B2, d2, c1, c2, s1, s2⟩ := E.out.cell hak
            obtain ⟨gb, ob, rfl, hc⟩ := s1.at_ hlt
            have hx := hc j _ (cells_get _ j (by rw [rowL_length]; exact hlt))
            rw [show (rowL k (Mj a))[j]'(by rw [rowL_length]; exact hlt) = Mj a j from by simp [rowL], bv] at hx
            clear hc s1 s2 c2
            have haki : (a : Int) < (k : Int) := by omega
            by_cases h0 : Mj a j = 0
            · rw [h0] at hx
              have H0 := Lib.hid h0; clear h0
              go_wp2_with fail
              go_roundw
              case rel => exact ⟨a + 1, by omega, by omega, by go_num, fun b h1 h2 => by
                by_cases hba : b = a
                · rw [hba]; exact H0.out
                · exact Hz.out b h1 (by omega), trivial⟩
              case measure => simp [intOf]; omega
            · have h0' : (Mj a j).toNat ≠ 0 := fun e => h0 (UInt8.toNat_inj.1 e)
              have e1 : (((Mj a j).toNat : Int) == 0) = false := by simp; omega
              obtain ⟨x, hx0⟩ : ∃ x, x = (Mj a j).toNat := ⟨_, rfl⟩
              rw [← hx0] at hx e1 h0'
              have Hpa := Lib.hid h0; clear h0 hx0
              go_wp2_with fail
              go_meet
              case rel => exact ⟨a, haj, hak, rfl, Hpa.out, rfl⟩
          · have hlasti : ¬ ((a : Int) < (k : Int) - 1) := by omega
            have hpa : Mj a j ≠ 0 := fun h0 => by
              obtain ⟨h1, h2, h3⟩ := Hpv.out
              by_cases hpa : pv = a
              · rw [hpa] at h3; exact h3 h0
              · exact h3 (Hz.out pv h1 (by omega))
            have Hpa := Lib.hid hpa; clear hpa
            go_wp2_with fail
            go_meet
            case rel => exact ⟨a, haj, hak, rfl, Hpa.out, rfl⟩
      case rest =>
        obtain ⟨a, haj, hak, rfl, hpa, hwc⟩ := hcut
        subst hwc
        have Hpa := Lib.hid hpa; clear hpa Hpv
        have haki : (a : Int) < (k : Int) := by omega
        have hgo := E.out.lt
        -- was := l[j]
        obtain ⟨Bj, dj, Bj2, dj2, cj1, cj2, sj1, sj2⟩ := E.out.cell hlt
        have Sj1 := Lib.hid sj1; have Sj2 := Lib.hid sj2
        clear sj1 sj2
        go_upto_region 10 with (fail)
        clear cj1 cj2
        have hb1 : Below wc.heap.size wc (wc.alloc (.cells #[.slice Bj k dj, .slice Bj2 W dj2] 83)) := (Below.refl _ _).alloc (Nat.le_refl _) _
        have hx1 := heap_alloc_new wc (.cells #[.slice Bj k dj, .slice Bj2 W dj2] 83)
        obtain ⟨v1, hv1⟩ : ∃ x, x = wc.alloc (.cells #[.slice Bj k dj, .slice Bj2 W dj2] 83) := ⟨_, rfl⟩
        rw [← hv1] at hb1 hx1 ⊢
        have E1 := Lib.hid (E.out.later hb1)
        have Hb1 := Lib.hid (Hb.out.trans (hb1.mono hszo))
        have Sk1 := Lib.hid (Sj1.out.below hb1 (Nat.le_refl _))
        have Sk2 := Lib.hid (Sj2.out.below hb1 (Nat.le_refl _))
        have Hx1 := Lib.hid hx1
        have hs1 := Hb1.out.size
        obtain ⟨gw, hgw1⟩ : ∃ x, x = wc.heap.size := ⟨_, rfl⟩
        rw [← hgw1] at Hx1 ⊢
        have hgne : gw ≠ g := by omega
        clear hv1 hb1 hx1 hgw1 Sj1 Sj2
        -- l[j] = l[at]
        obtain ⟨Ba, da, Ba2, da2, ca1, ca2, sa1, sa2⟩ := E1.out.cell hak
        obtain ⟨_, _, _, _, z0, z1, _, _⟩ := E1.out.cell hlt
        have y0 := E1.out.free (j * 2)
        have y1 := E1.out.free (j * 2 + 1)
        have Sa1 := Lib.hid sa1; have Sa2 := Lib.hid sa2
        clear sa1 sa2
        go_upto_region 11 with (fail)
        clear ca1 ca2 z0 z1 y0 y1
        have hset := E1.out.set hlt (f := Mj a) Sa1.out Sa2.out
        have hE2 := hset.1
        have hf2 := hset.2
        obtain ⟨v2, hv2⟩ : ∃ x, x = (v1.setCell ⟨g, j * 2, none⟩ (.slice Ba k da)).setCell ⟨g, j * 2 + 1, none⟩ (.slice Ba2 W da2) := ⟨_, rfl⟩
        rw [← hv2] at hE2 hf2 ⊢
        have E2 := Lib.hid hE2
        have Hx2 := Lib.hid (hf2.row_some Hx1.out hgne)
        have Sm1 := Lib.hid (Sk1.out.fr hf2 (fun b o hn e hb => E1.out.off Sk1.out hn e hb))
        have Sm2 := Lib.hid (Sk2.out.fr hf2 (fun b o hn e hb => E1.out.off Sk2.out hn e hb))
        have Hb2 := Lib.hid (Hb1.out.trans (hf2.below hs1 (fun b hb => by have hb : b = g := hb; omega)))
        have hs2 := Hb2.out.size
        clear hv2 hset hE2 hf2 Sa1 Sa2 Sk1 Sk2 E1 Hb1 Hx1
        -- l[at] = was
        have k0 : v2.cell? ⟨gw, 0, none⟩ = some (.slice Bj k dj) := by rw [cell_of_row _ _ _ _ _ _ Hx2.out]; rfl
        have k1 : v2.cell? ⟨gw, 1, none⟩ = some (.slice Bj2 W dj2) := by rw [cell_of_row _ _ _ _ _ _ Hx2.out]; rfl
        obtain ⟨_, _, _, _, z0, z1, _, _⟩ := E2.out.cell hak
        have y0 := E2.out.free (a * 2)
        have y1 := E2.out.free (a * 2 + 1)
        go_upto_region 12 with (fail)
        clear k0 k1 z0 z1 y0 y1
        have hset := E2.out.set hak (f := Mj j) Sm1.out Sm2.out
        have hE3 := hset.1.congr (M' := sw Mj j a) (fun b hb c hc => rfl)
        have hf3 := hset.2
        obtain ⟨v3, hv3⟩ : ∃ x, x = (v2.setCell ⟨g, a * 2, none⟩ (.slice Bj k dj)).setCell ⟨g, a * 2 + 1, none⟩ (.slice Bj2 W dj2) := ⟨_, rfl⟩
        rw [← hv3] at hE3 hf3 ⊢
        have E3 := Lib.hid hE3
        have Hb3 := Lib.hid (Hb2.out.trans (hf3.below hs2 (fun b hb => by have hb : b = g := hb; omega)))
        have hs3 := Hb3.out.size
        clear hv3 hset hE3 hf3 Sm1 Sm2 E2 Hb2 Hx2
        -- c, _ := Div(1, l[j].factors[j])
        have hjj : sw Mj j a j j = Mj a j := by
          unfold sw
          by_cases h : j = a
          · rw [if_pos h, ← h]
          · rw [if_neg h, if_pos rfl]
        obtain ⟨Bl, dl, Bl2, dl2, cl1, cl2, sl1, sl2⟩ := E3.out.cell hlt
        obtain ⟨gb, ob, rfl, hc⟩ := sl1.at_ hlt
        have x0 := hc j _ (cells_get _ j (by rw [rowL_length]; exact hlt))
        rw [show (rowL k (sw Mj j a j))[j]'(by rw [rowL_length]; exact hlt) = Mj a j from by simp [rowL, hjj], bv] at x0
        obtain ⟨x, hx⟩ : ∃ x : Nat, x = (Mj a j).toNat := ⟨_, rfl⟩
        rw [← hx] at x0
        have hh := rdiv_at (x : Int) (Mj a j) (by rw [hx]) Hpa.out v3
        have Sl1 := Lib.hid sl1; have Sl2 := Lib.hid sl2
        clear hc hjj sl1 sl2 hx
        go_wp2_with fail
        refine hh.mono ?_; clear hh; rintro e v4 ⟨rfl, rfl⟩
        clear x0
        have hh := times_any (ginv (Mj a j)) (some ⟨gb, ob, none⟩) k dl (rowL k (sw Mj j a j)) Bl2 W dl2 (rowL W fun p => sw Mj j a j (k + p)) v4 Sl1.out Sl2.out (by omega) hW
        obtain ⟨y, hy⟩ : ∃ y : Nat, y = (ginv (Mj a j)).toNat := ⟨_, rfl⟩
        rw [← hy] at hh ⊢
        clear hy
        go_wp2_with fail
        refine hh.mono ?_; clear hh; rintro e v5 ⟨⟨vv, rfl, Bn, mn, dn, Bn2, mn2, dn2, rfl, hn1, hn2⟩, hb5⟩
        have hmn : mn = k := by
          have := hn1.len
          rw [cells_length, List.length_map, rowL_length] at this
          omega
        have hmn2 : mn2 = W := by
          have := hn2.len
          rw [cells_length, List.length_map, rowL_length] at this
          omega
        rw [hmn, rowL_map] at hn1
        rw [hmn2, rowL_map] at hn2
        rw [hmn, hmn2]
        have Hn1 := Lib.hid hn1
        have Hn2 := Lib.hid hn2
        have E5 := Lib.hid (E3.out.later hb5)
        have Hb5 := Lib.hid (Hb3.out.trans (hb5.mono hs3))
        have hs5 := Hb5.out.size
        clear hmn hmn2 mn mn2 hn1 hn2 hb5 cl1 cl2 Sl1 Sl2 E3 Hb3
        obtain ⟨_, _, _, _, z0, z1, _, _⟩ := E5.out.cell hlt
        have y0 := E5.out.free (j * 2)
        have y1 := E5.out.free (j * 2 + 1)
        go_upto_region 14 with (fail)
        clear z0 z1 y0 y1
        have hset := E5.out.set hlt (f := fun q => gm (ginv (Mj a j)) (sw Mj j a j q)) Hn1.out Hn2.out
        obtain ⟨M5, hM5⟩ : ∃ M, M = sc (sw Mj j a) j (ginv (Mj a j)) := ⟨_, rfl⟩
        have hE6 := hset.1.congr (M' := M5) (fun b hb c hc => by rw [hM5]; rfl)
        have hf6 := hset.2
        obtain ⟨v6, hv6⟩ : ∃ x, x = (v5.setCell ⟨g, j * 2, none⟩ (.slice Bn k dn)).setCell ⟨g, j * 2 + 1, none⟩ (.slice Bn2 W dn2) := ⟨_, rfl⟩
        rw [← hv6] at hE6 hf6 ⊢
        have E6 := Lib.hid hE6
        have Hb6 := Lib.hid (Hb5.out.trans (hf6.below hs5 (fun b hb => by have hb : b = g := hb; omega)))
        have hs6 := Hb6.out.size
        have HM5 := Lib.hid hM5
        clear hv6 hset hE6 hf6 Hn1 Hn2 E5 Hb5 hM5
        go_wp2_with fail
        go_loopw [10] (fun iv wi => ∃ i : Nat, j + 1 ≤ i ∧ i ≤ k ∧ iv = .int .i64 (i : Int) ∧ EqsAt wi g k W (fd M5 j (j + 1) i) ∧ Fr (fun k => k = g) v6 wi) (fun iv _ => k - (intOf iv).toNat)
        case atStart => exact ⟨j + 1, by omega, by omega, by go_num, by rw [fd_start]; exact E6.out, Fr.refl _ _⟩
        case round =>
          obtain ⟨wi, rfl⟩ : ∃ x, x = wr := ⟨_, rfl⟩
          obtain ⟨i, hij, hik0, rfl, hE, hfW⟩ := hrel
          have HfW := Lib.hid hfW
          clear hfW
          by_cases hik : i < k
          · have hMi := fd_next M5 j (j + 1) i (by omega) (.inl (by omega))
            obtain ⟨Mi, hMid⟩ : ∃ M, M = fd M5 j (j + 1) i := ⟨_, rfl⟩
            rw [← hMid] at hE hMi
            have HMi := Lib.hid hMi
            have E := Lib.hid hE
            have hjk : j < k := hlt
            have hiki : (i : Int) < (k : Int) := by omega
            clear hMi hE hMid
            obtain ⟨Bi, di, Bi2, di2, ci1, ci2, si1, si2⟩ := E.out.cell hik
            obtain ⟨Bj, dj, Bj2, dj2, cj1, cj2, sj1, sj2⟩ := E.out.cell hjk
            obtain ⟨gb, ob, rfl, hc⟩ := si1.at_ hjk
            have x0 := hc j _ (cells_get _ j (by rw [rowL_length]; exact hjk))
            rw [show (rowL k (Mi i))[j]'(by rw [rowL_length]; exact hjk) = Mi i j from by simp [rowL], bv] at x0
            have hgb : ¬ gb = g := E.out.off si1 (by omega) rfl
            obtain ⟨x, hx⟩ : ∃ x : Nat, x = (Mi i j).toNat := ⟨_, rfl⟩
            rw [← hx] at x0
            have Hx := Lib.hid (show (((Mi i j).toNat : Nat) : Int) = (x : Int) by rw [hx])
            have bd : Below wi.heap.size wi wi.drew := Below.drew (Below.refl _ _)
            have C1 := Lib.hid (show wi.drew.cell? ⟨g, i * 2, none⟩ = some (.slice (some ⟨gb, ob, none⟩) k di) from ci1)
            have C2 := Lib.hid (show wi.drew.cell? ⟨g, i * 2 + 1, none⟩ = some (.slice Bi2 W di2) from ci2)
            have C3 := Lib.hid (show wi.drew.cell? ⟨g, j * 2, none⟩ = some (.slice Bj k dj) from cj1)
            have C4 := Lib.hid (show wi.drew.cell? ⟨g, j * 2 + 1, none⟩ = some (.slice Bj2 W dj2) from cj2)
            have X0 := Lib.hid (show wi.cell? ⟨gb, ob + j, none⟩ = some (.int .u8 (x : Int)) from x0)
            have Ed := Lib.hid (E.out.later bd)
            have Si1 := Lib.hid (si1.below bd (Nat.le_refl _))
            have Si2 := Lib.hid (si2.below bd (Nat.le_refl _))
            have Sj1 := Lib.hid (sj1.below bd (Nat.le_refl _))
            have Sj2 := Lib.hid (sj2.below bd (Nat.le_refl _))
            clear bd hc x0 hx ci1 ci2 cj1 cj2 si1 si2 sj1 sj2
            go_upto_region 17 with (fail)
            refine wp_region_held_drew (S := fun w' => Fr (fun k => k = g) wi w') (by kernel_rfl) (Fr.drew (Fr.refl _ _)) (fun hHeld => ?_)
            clear hHeld
            have hHeld : Fr (fun k => k = g) wi wi.drew := Fr.drew (Fr.refl _ _)
            have hz_0 : wi.heap.size ≤ wi.drew.heap.size := Nat.le_refl _
            obtain ⟨v_1001, hw⟩ : ∃ v_1001, v_1001 = wi.drew := ⟨_, rfl⟩
            rw [← hw] at hHeld hz_0 C1 C2 C3 C4 Ed Si1 Si2 Sj1 Sj2 ⊢
            clear hw
            refine wpAnyH_take (i := 0) (oi := ⟨some 85, _, _, _, _, _⟩) (v := ?vg0_1002) rfl (by kernel_rfl) (by kernel_rfl) (by kernel_rfl) (fun _ _ _ h => h) (Or.inl ⟨by rfl, ?yg0_1002⟩) hHeld ?rg0_1002
            case yg0_1002 =>
              intro wq hSw
              (try dsimp only at hSw)
              first | (go_simp; done) | (go_simp; with_reducible rfl)
            try simp only [Act.put, List.setIfInBounds_toArray, List.set_cons_zero, List.set_cons_succ]
            refine wpAnyH_take (i := 1) (oi := ⟨some 86, _, _, _, _, _⟩) (v := ?vg1_1003) rfl (by kernel_rfl) (by kernel_rfl) (by kernel_rfl) (fun _ _ _ h => h) (Or.inl ⟨by rfl, ?yg1_1003⟩) hHeld ?rg1_1003
            case yg1_1003 =>
              intro wq hSw
              (try dsimp only at hSw)
              first | (go_simp; done) | (go_simp; with_reducible rfl)
            try simp only [Act.put, List.setIfInBounds_toArray, List.set_cons_zero, List.set_cons_succ]
            refine wpAnyH_take (i := 2) (oi := ⟨some 87, _, _, _, _, _⟩) (v := ?vg2_1004) rfl (by kernel_rfl) (by kernel_rfl) (by kernel_rfl) (fun _ _ _ h => h) (Or.inl ⟨by rfl, ?yg2_1004⟩) hHeld ?rg2_1004
            case yg2_1004 =>
              intro wq hSw
              (try dsimp only at hSw)
              first | (go_simp; done) | (go_simp; with_reducible rfl)
            try simp only [Act.put, List.setIfInBounds_toArray, List.set_cons_zero, List.set_cons_succ]
            refine wpAnyH_take (i := 3) (oi := ⟨some 88, _, _, _, _, _⟩) (v := ?vg3_1005) rfl (by kernel_rfl) (by kernel_rfl) (by kernel_rfl) (fun _ _ _ h => h) (Or.inl ⟨by rfl, ?yg3_1005⟩) hHeld ?rg3_1005
            case yg3_1005 =>
              intro wq hSw
              (try dsimp only at hSw)
              first | (go_simp; done) | (go_simp; with_reducible rfl)
            try simp only [Act.put, List.setIfInBounds_toArray, List.set_cons_zero, List.set_cons_succ]
            refine wpAnyH_take (i := 4) (oi := ⟨some 89, _, _, _, _, _⟩) (v := ?vg4_1006) rfl (by kernel_rfl) (by kernel_rfl) (by kernel_rfl) (fun _ _ _ h => h) (Or.inl ⟨by rfl, ?yg4_1006⟩) hHeld ?rg4_1006
            case yg4_1006 =>
              intro wq hSw
              (try dsimp only at hSw)
              first | (go_simp; done) | (go_simp; with_reducible rfl)
            try simp only [Act.put, List.setIfInBounds_toArray, List.set_cons_zero, List.set_cons_succ]
            refine wpAnyH_take (i := 6) (oi := ⟨some 91, _, _, _, _, _⟩) (v := ?vg6_1007) rfl (by kernel_rfl) (by kernel_rfl) (by kernel_rfl) (fun _ _ _ h => h) (Or.inl ⟨by rfl, ?yg6_1007⟩) hHeld ?rg6_1007
            case yg6_1007 =>
              intro wq hSw
              (try dsimp only at hSw)
              first | (go_simp; done) | (go_simp; with_reducible rfl)
            try simp only [Act.put, List.setIfInBounds_toArray, List.set_cons_zero, List.set_cons_succ]
            refine wpAnyH_take (i := 7) (oi := ⟨some 92, _, _, _, _, _⟩) (v := ?vg7_1008) rfl (by kernel_rfl) (by kernel_rfl) (by kernel_rfl) (fun _ _ _ h => h) (Or.inl ⟨by rfl, ?yg7_1008⟩) hHeld ?rg7_1008
            case yg7_1008 =>
              intro wq hSw
              (try dsimp only at hSw)
              first | (go_simp; done) | (go_simp; with_reducible rfl)
            try simp only [Act.put, List.setIfInBounds_toArray, List.set_cons_zero, List.set_cons_succ]
            refine wpAnyH_take (i := 8) (oi := ⟨some 93, _, _, _, _, _⟩) (v := ?vg8_1009) rfl (by kernel_rfl) (by kernel_rfl) (by kernel_rfl) (fun _ _ _ h => h) (Or.inl ⟨by rfl, ?yg8_1009⟩) hHeld ?rg8_1009
            case yg8_1009 =>
              intro wq hSw
              (try dsimp only at hSw)
              first | (go_simp; done) | (go_simp; with_reducible rfl)
            try simp only [Act.put, List.setIfInBounds_toArray, List.set_cons_zero, List.set_cons_succ]
            refine wpAnyH_take (i := 9) (oi := ⟨some 94, _, _, _, _, _⟩) (v := ?vg9_1010) rfl (by kernel_rfl) (by kernel_rfl) (by kernel_rfl) (fun _ _ _ h => h) (Or.inl ⟨by rfl, ?yg9_1010⟩) hHeld ?rg9_1010
            case yg9_1010 =>
              intro wq hSw
              (try dsimp only at hSw)
              first | (go_simp; done) | (go_simp; with_reducible rfl)
            try simp only [Act.put, List.setIfInBounds_toArray, List.set_cons_zero, List.set_cons_succ]
            refine wpAnyH_take (i := 11) (oi := ⟨some 96, _, _, _, _, _⟩) (v := ?vg11_1011) rfl (by kernel_rfl) (by kernel_rfl) (by kernel_rfl) (fun _ _ _ h => h) (Or.inl ⟨by rfl, ?yg11_1011⟩) hHeld ?rg11_1011
            case yg11_1011 =>
              intro wq hSw
              (try dsimp only at hSw)
              first | (go_simp; done) | (go_simp; with_reducible rfl)
            try simp only [Act.put, List.setIfInBounds_toArray, List.set_cons_zero, List.set_cons_succ]
            refine wpAnyH_take (i := 14) (oi := ⟨some 99, _, _, _, _, _⟩) (v := ?vg14_1012) rfl (by kernel_rfl) (by kernel_rfl) (by kernel_rfl) (fun _ _ _ h => h) (Or.inl ⟨by rfl, ?yg14_1012⟩) hHeld ?rg14_1012
            case yg14_1012 =>
              intro wq hSw
              (try dsimp only at hSw)
              first | (go_simp; done) | (go_simp; with_reducible rfl)
            try simp only [Act.put, List.setIfInBounds_toArray, List.set_cons_zero, List.set_cons_succ]
            refine wpAnyH_take (i := 15) (oi := ⟨some 100, _, _, _, _, _⟩) (v := ?vg15_1013) rfl (by kernel_rfl) (by kernel_rfl) (by kernel_rfl) (fun _ _ _ h => h) (Or.inl ⟨by rfl, ?yg15_1013⟩) hHeld ?rg15_1013
            case yg15_1013 =>
              intro wq hSw
              (try dsimp only at hSw)
              first | (go_simp; done) | (go_simp; with_reducible rfl)
            try simp only [Act.put, List.setIfInBounds_toArray, List.set_cons_zero, List.set_cons_succ]
            refine wpAnyH_take (i := 16) (oi := ⟨some 101, _, _, _, _, _⟩) (v := ?vg16_1014) rfl (by kernel_rfl) (by kernel_rfl) (by kernel_rfl) (fun _ _ _ h => h) (Or.inl ⟨by rfl, ?yg16_1014⟩) hHeld ?rg16_1014
            case yg16_1014 =>
              intro wq hSw
              (try dsimp only at hSw)
              first | (go_simp; done) | (go_simp; with_reducible rfl)
            try simp only [Act.put, List.setIfInBounds_toArray, List.set_cons_zero, List.set_cons_succ]
            refine wpAnyH_ready (rs := [5, 10, 17]) (by kernel_rfl) (by simp) ?_
            refine AllReadyH.cons (o := ⟨some 90, _, _, _, _, _⟩) rfl (fun K hK => ?_) (AllReadyH.cons (o := ⟨some 95, _, _, _, _, _⟩) rfl (fun K hK => ?_) (AllReadyH.cons (o := ⟨some 102, _, _, _, _, _⟩) rfl (fun K hK => ?_) (AllReadyH.nil)))
            · have qC1 := C1.out
              have qC2 := C2.out

              go_simp
              refine hK.out _ _ hHeld (fun _ => ?_)
              clear hK K
              try simp only [Act.put, List.setIfInBounds_toArray, List.set_cons_zero, List.set_cons_succ]
              refine wpAnyH_ready (rs := [10, 17]) (by kernel_rfl) (by simp) ?_
              refine AllReadyH.cons (o := ⟨some 95, _, _, _, _, _⟩) rfl (fun K hK => ?_) (AllReadyH.cons (o := ⟨some 102, _, _, _, _, _⟩) rfl (fun K hK => ?_) (AllReadyH.nil))
              · have qC1 := C1.out

                go_simp
                refine hK.out _ _ hHeld (fun _ => ?_)
                clear hK K
                try simp only [Act.put, List.setIfInBounds_toArray, List.set_cons_zero, List.set_cons_succ]
                refine wpAnyH_take (i := 12) (oi := ⟨some 97, _, _, _, _, _⟩) (v := ?vg12_1015) rfl (by kernel_rfl) (by kernel_rfl) (by kernel_rfl) (fun _ _ _ h => h) (Or.inl ⟨by rfl, ?yg12_1015⟩) hHeld ?rg12_1015
                case yg12_1015 =>
                  intro wq hSw
                  (try dsimp only at hSw)
                  first | (go_simp; done) | (go_simp; with_reducible rfl)
                try simp only [Act.put, List.setIfInBounds_toArray, List.set_cons_zero, List.set_cons_succ]
                refine wpAnyH_take (i := 13) (oi := ⟨some 98, _, _, _, _, _⟩) (v := ?vg13_1016) rfl (by kernel_rfl) (by kernel_rfl) (by kernel_rfl) (fun _ _ _ h => h) (Or.inl ⟨by rfl, ?yg13_1016⟩) hHeld ?rg13_1016
                case yg13_1016 =>
                  intro wq hSw
                  (try dsimp only at hSw)
                  have q0 := hSw.cell_some X0.out (by show ¬ gb = g; exact hgb)
                  first | (go_simp; done) | (go_simp; with_reducible rfl)
                try simp only [Act.put, List.setIfInBounds_toArray, List.set_cons_zero, List.set_cons_succ]
                refine wpAnyH_ready (rs := [17]) (by kernel_rfl) (by simp) ?_
                refine AllReadyH.cons (o := ⟨some 102, _, _, _, _, _⟩) rfl (fun K hK => ?_) (AllReadyH.nil)
                have qC3 := C3.out
                have qC4 := C4.out

                go_simp
                refine hK.out _ _ hHeld (fun _ => ?_)
                clear hK K
                try simp only [Act.put, List.setIfInBounds_toArray, List.set_cons_zero, List.set_cons_succ]
                refine wpAnyH_ready (rs := [18]) (by kernel_rfl) (by simp) ?_
                refine AllReadyH.cons (o := ⟨some 103, _, _, _, _, _⟩) rfl (fun K hK => ?_) (AllReadyH.nil)
                go_simp
                have hh := less_any (Mi i j) (some ⟨gb, ob, none⟩) k di (rowL k (Mi i)) Bi2 W di2 (rowL W fun p => Mi i (k + p)) Bj k dj (rowL k (Mi j)) Bj2 W dj2 (rowL W fun p => Mi j (k + p)) v_1001 Si1.out Si2.out Sj1.out Sj2.out (by omega) hW
                rw [Hx.out] at hh
                refine hh.mono ?_; clear hh; rintro e v_1017 ⟨⟨vv, rfl, Bn, mn, dn, Bn2, mn2, dn2, rfl, hn1, hn2⟩, hbN⟩
                have hmn : mn = k := by
                  have := hn1.len
                  rw [cells_length, fld_length, rowL_length] at this
                  omega
                have hmn2 : mn2 = W := by
                  have := hn2.len
                  rw [cells_length, fld_length, rowL_length] at this
                  omega
                rw [hmn] at hn1
                rw [hmn2] at hn2
                rw [hmn, hmn2]
                rw [rowL_fld] at hn1 hn2
                have Hn1 := Lib.hid hn1
                have Hn2 := Lib.hid hn2
                have Ex := Lib.hid (Ed.out.later hbN)
                have hfN : Fr (fun k => k = g) v_1001 v_1017 := Fr.of_below hbN
                clear hbN hn1 hn2 hmn hmn2 mn mn2
                go_wp2_with fail
                have hHeld := hHeld.trans hfN
                have hz_1018 := hfN.size
                refine hK.out _ _ hHeld (fun _ => ?_)
                clear hK K hfN
                try simp only [Act.put, List.setIfInBounds_toArray, List.set_cons_zero, List.set_cons_succ]
                refine wpAnyH_take (i := 19) (oi := ⟨some 104, _, _, _, _, _⟩) (v := ?vg19_1019) rfl (by kernel_rfl) (by kernel_rfl) (by kernel_rfl) (fun _ _ _ h => h) (Or.inl ⟨by rfl, ?yg19_1019⟩) hHeld ?rg19_1019
                case yg19_1019 =>
                  intro wq hSw
                  (try dsimp only at hSw)
                  first | (go_simp; done) | (go_simp; with_reducible rfl)
                try simp only [Act.put, List.setIfInBounds_toArray, List.set_cons_zero, List.set_cons_succ]
                refine wpAnyH_ready (rs := [20]) (by kernel_rfl) (by simp) ?_
                refine AllReadyH.cons (o := ⟨none, _, _, _, _, _⟩) rfl (fun K hK => ?_) (AllReadyH.nil)
                obtain ⟨_, _, _, _, z0, z1, _, _⟩ := Ex.out.cell hik
                have y0 := Ex.out.free (i * 2)
                have y1 := Ex.out.free (i * 2 + 1)
                go_simp
                have hset := Ex.out.set hik (f := fun c => Mi i c ^^^ gm (Mi i j) (Mi j c)) Hn1.out Hn2.out
                have hfN := hset.2
                have hE := hset.1
                obtain ⟨v_1020, hw⟩ : ∃ x, x = (v_1017.setCell ⟨g, i * 2, none⟩ (.slice Bn k dn)).setCell ⟨g, i * 2 + 1, none⟩ (.slice Bn2 W dn2) := ⟨_, rfl⟩
                rw [← hw] at hfN hE ⊢
                clear hw z0 z1 y0 y1 hset Ex Hn1 Hn2
                have En := Lib.hid hE
                clear hE
                have hHeld := hHeld.trans hfN
                have hz_1021 := hfN.size
                refine hK.out _ _ hHeld (fun _ => ?_)
                clear hK K hfN
                try simp only [Act.put, List.setIfInBounds_toArray, List.set_cons_zero, List.set_cons_succ]
                refine wpAnyH_done (by kernel_rfl) ?_ _
                have HbF := Lib.hid hHeld
                clear hHeld
                obtain ⟨wf, hwf⟩ : ∃ x, x = v_1020 := ⟨_, rfl⟩
                rw [← hwf] at HbF En ⊢
                clear hwf
                go_wp2_with fail
                go_roundw
                case rel => exact ⟨i + 1, by omega, by omega, by go_num, by rw [HMi.out]; exact En.out, HfW.out.trans HbF.out⟩
                case measure => simp [intOf]; omega
              · have qC3 := C3.out
                have qC4 := C4.out

                go_simp
                refine hK.out _ _ hHeld (fun _ => ?_)
                clear hK K
                try simp only [Act.put, List.setIfInBounds_toArray, List.set_cons_zero, List.set_cons_succ]
                refine wpAnyH_ready (rs := [10]) (by kernel_rfl) (by simp) ?_
                refine AllReadyH.cons (o := ⟨some 95, _, _, _, _, _⟩) rfl (fun K hK => ?_) (AllReadyH.nil)
                have qC1 := C1.out

                go_simp
                refine hK.out _ _ hHeld (fun _ => ?_)
                clear hK K
                try simp only [Act.put, List.setIfInBounds_toArray, List.set_cons_zero, List.set_cons_succ]
                refine wpAnyH_take (i := 12) (oi := ⟨some 97, _, _, _, _, _⟩) (v := ?vg12_1022) rfl (by kernel_rfl) (by kernel_rfl) (by kernel_rfl) (fun _ _ _ h => h) (Or.inl ⟨by rfl, ?yg12_1022⟩) hHeld ?rg12_1022
                case yg12_1022 =>
                  intro wq hSw
                  (try dsimp only at hSw)
                  first | (go_simp; done) | (go_simp; with_reducible rfl)
                try simp only [Act.put, List.setIfInBounds_toArray, List.set_cons_zero, List.set_cons_succ]
                refine wpAnyH_take (i := 13) (oi := ⟨some 98, _, _, _, _, _⟩) (v := ?vg13_1023) rfl (by kernel_rfl) (by kernel_rfl) (by kernel_rfl) (fun _ _ _ h => h) (Or.inl ⟨by rfl, ?yg13_1023⟩) hHeld ?rg13_1023
                case yg13_1023 =>
                  intro wq hSw
                  (try dsimp only at hSw)
                  have q0 := hSw.cell_some X0.out (by show ¬ gb = g; exact hgb)
                  first | (go_simp; done) | (go_simp; with_reducible rfl)
                try simp only [Act.put, List.setIfInBounds_toArray, List.set_cons_zero, List.set_cons_succ]
                refine wpAnyH_ready (rs := [18]) (by kernel_rfl) (by simp) ?_
                refine AllReadyH.cons (o := ⟨some 103, _, _, _, _, _⟩) rfl (fun K hK => ?_) (AllReadyH.nil)
                go_simp
                have hh := less_any (Mi i j) (some ⟨gb, ob, none⟩) k di (rowL k (Mi i)) Bi2 W di2 (rowL W fun p => Mi i (k + p)) Bj k dj (rowL k (Mi j)) Bj2 W dj2 (rowL W fun p => Mi j (k + p)) v_1001 Si1.out Si2.out Sj1.out Sj2.out (by omega) hW
                rw [Hx.out] at hh
                refine hh.mono ?_; clear hh; rintro e v_1024 ⟨⟨vv, rfl, Bn, mn, dn, Bn2, mn2, dn2, rfl, hn1, hn2⟩, hbN⟩
                have hmn : mn = k := by
                  have := hn1.len
                  rw [cells_length, fld_length, rowL_length] at this
                  omega
                have hmn2 : mn2 = W := by
                  have := hn2.len
                  rw [cells_length, fld_length, rowL_length] at this
                  omega
                rw [hmn] at hn1
                rw [hmn2] at hn2
                rw [hmn, hmn2]
                rw [rowL_fld] at hn1 hn2
                have Hn1 := Lib.hid hn1
                have Hn2 := Lib.hid hn2
                have Ex := Lib.hid (Ed.out.later hbN)
                have hfN : Fr (fun k => k = g) v_1001 v_1024 := Fr.of_below hbN
                clear hbN hn1 hn2 hmn hmn2 mn mn2
                go_wp2_with fail
                have hHeld := hHeld.trans hfN
                have hz_1025 := hfN.size
                refine hK.out _ _ hHeld (fun _ => ?_)
                clear hK K hfN
                try simp only [Act.put, List.setIfInBounds_toArray, List.set_cons_zero, List.set_cons_succ]
                refine wpAnyH_take (i := 19) (oi := ⟨some 104, _, _, _, _, _⟩) (v := ?vg19_1026) rfl (by kernel_rfl) (by kernel_rfl) (by kernel_rfl) (fun _ _ _ h => h) (Or.inl ⟨by rfl, ?yg19_1026⟩) hHeld ?rg19_1026
                case yg19_1026 =>
                  intro wq hSw
                  (try dsimp only at hSw)
                  first | (go_simp; done) | (go_simp; with_reducible rfl)
                try simp only [Act.put, List.setIfInBounds_toArray, List.set_cons_zero, List.set_cons_succ]
                refine wpAnyH_ready (rs := [20]) (by kernel_rfl) (by simp) ?_
                refine AllReadyH.cons (o := ⟨none, _, _, _, _, _⟩) rfl (fun K hK => ?_) (AllReadyH.nil)
                obtain ⟨_, _, _, _, z0, z1, _, _⟩ := Ex.out.cell hik
                have y0 := Ex.out.free (i * 2)
                have y1 := Ex.out.free (i * 2 + 1)
                go_simp
                have hset := Ex.out.set hik (f := fun c => Mi i c ^^^ gm (Mi i j) (Mi j c)) Hn1.out Hn2.out
                have hfN := hset.2
                have hE := hset.1
                obtain ⟨v_1027, hw⟩ : ∃ x, x = (v_1024.setCell ⟨g, i * 2, none⟩ (.slice Bn k dn)).setCell ⟨g, i * 2 + 1, none⟩ (.slice Bn2 W dn2) := ⟨_, rfl⟩
                rw [← hw] at hfN hE ⊢
                clear hw z0 z1 y0 y1 hset Ex Hn1 Hn2
                have En := Lib.hid hE
                clear hE
                have hHeld := hHeld.trans hfN
                have hz_1028 := hfN.size
                refine hK.out _ _ hHeld (fun _ => ?_)
                clear hK K hfN
                try simp only [Act.put, List.setIfInBounds_toArray, List.set_cons_zero, List.set_cons_succ]
                refine wpAnyH_done (by kernel_rfl) ?_ _
                have HbF := Lib.hid hHeld
                clear hHeld
                obtain ⟨wf, hwf⟩ : ∃ x, x = v_1027 := ⟨_, rfl⟩
                rw [← hwf] at HbF En ⊢
                clear hwf
                go_wp2_with fail
                go_roundw
                case rel => exact ⟨i + 1, by omega, by omega, by go_num, by rw [HMi.out]; exact En.out, HfW.out.trans HbF.out⟩
                case measure => simp [intOf]; omega
            · have qC1 := C1.out

              go_simp
              refine hK.out _ _ hHeld (fun _ => ?_)
              clear hK K
              try simp only [Act.put, List.setIfInBounds_toArray, List.set_cons_zero, List.set_cons_succ]
              refine wpAnyH_take (i := 12) (oi := ⟨some 97, _, _, _, _, _⟩) (v := ?vg12_1029) rfl (by kernel_rfl) (by kernel_rfl) (by kernel_rfl) (fun _ _ _ h => h) (Or.inl ⟨by rfl, ?yg12_1029⟩) hHeld ?rg12_1029
              case yg12_1029 =>
                intro wq hSw
                (try dsimp only at hSw)
                first | (go_simp; done) | (go_simp; with_reducible rfl)
              try simp only [Act.put, List.setIfInBounds_toArray, List.set_cons_zero, List.set_cons_succ]
              refine wpAnyH_take (i := 13) (oi := ⟨some 98, _, _, _, _, _⟩) (v := ?vg13_1030) rfl (by kernel_rfl) (by kernel_rfl) (by kernel_rfl) (fun _ _ _ h => h) (Or.inl ⟨by rfl, ?yg13_1030⟩) hHeld ?rg13_1030
              case yg13_1030 =>
                intro wq hSw
                (try dsimp only at hSw)
                have q0 := hSw.cell_some X0.out (by show ¬ gb = g; exact hgb)
                first | (go_simp; done) | (go_simp; with_reducible rfl)
              try simp only [Act.put, List.setIfInBounds_toArray, List.set_cons_zero, List.set_cons_succ]
              refine wpAnyH_ready (rs := [5, 17]) (by kernel_rfl) (by simp) ?_
              refine AllReadyH.cons (o := ⟨some 90, _, _, _, _, _⟩) rfl (fun K hK => ?_) (AllReadyH.cons (o := ⟨some 102, _, _, _, _, _⟩) rfl (fun K hK => ?_) (AllReadyH.nil))
              · have qC1 := C1.out
                have qC2 := C2.out

                go_simp
                refine hK.out _ _ hHeld (fun _ => ?_)
                clear hK K
                try simp only [Act.put, List.setIfInBounds_toArray, List.set_cons_zero, List.set_cons_succ]
                refine wpAnyH_ready (rs := [17]) (by kernel_rfl) (by simp) ?_
                refine AllReadyH.cons (o := ⟨some 102, _, _, _, _, _⟩) rfl (fun K hK => ?_) (AllReadyH.nil)
                have qC3 := C3.out
                have qC4 := C4.out

                go_simp
                refine hK.out _ _ hHeld (fun _ => ?_)
                clear hK K
                try simp only [Act.put, List.setIfInBounds_toArray, List.set_cons_zero, List.set_cons_succ]
                refine wpAnyH_ready (rs := [18]) (by kernel_rfl) (by simp) ?_
                refine AllReadyH.cons (o := ⟨some 103, _, _, _, _, _⟩) rfl (fun K hK => ?_) (AllReadyH.nil)
                go_simp
                have hh := less_any (Mi i j) (some ⟨gb, ob, none⟩) k di (rowL k (Mi i)) Bi2 W di2 (rowL W fun p => Mi i (k + p)) Bj k dj (rowL k (Mi j)) Bj2 W dj2 (rowL W fun p => Mi j (k + p)) v_1001 Si1.out Si2.out Sj1.out Sj2.out (by omega) hW
                rw [Hx.out] at hh
                refine hh.mono ?_; clear hh; rintro e v_1031 ⟨⟨vv, rfl, Bn, mn, dn, Bn2, mn2, dn2, rfl, hn1, hn2⟩, hbN⟩
                have hmn : mn = k := by
                  have := hn1.len
                  rw [cells_length, fld_length, rowL_length] at this
                  omega
                have hmn2 : mn2 = W := by
                  have := hn2.len
                  rw [cells_length, fld_length, rowL_length] at this
                  omega
                rw [hmn] at hn1
                rw [hmn2] at hn2
                rw [hmn, hmn2]
                rw [rowL_fld] at hn1 hn2
                have Hn1 := Lib.hid hn1
                have Hn2 := Lib.hid hn2
                have Ex := Lib.hid (Ed.out.later hbN)
                have hfN : Fr (fun k => k = g) v_1001 v_1031 := Fr.of_below hbN
                clear hbN hn1 hn2 hmn hmn2 mn mn2
                go_wp2_with fail
                have hHeld := hHeld.trans hfN
                have hz_1032 := hfN.size
                refine hK.out _ _ hHeld (fun _ => ?_)
                clear hK K hfN
                try simp only [Act.put, List.setIfInBounds_toArray, List.set_cons_zero, List.set_cons_succ]
                refine wpAnyH_take (i := 19) (oi := ⟨some 104, _, _, _, _, _⟩) (v := ?vg19_1033) rfl (by kernel_rfl) (by kernel_rfl) (by kernel_rfl) (fun _ _ _ h => h) (Or.inl ⟨by rfl, ?yg19_1033⟩) hHeld ?rg19_1033
                case yg19_1033 =>
                  intro wq hSw
                  (try dsimp only at hSw)
                  first | (go_simp; done) | (go_simp; with_reducible rfl)
                try simp only [Act.put, List.setIfInBounds_toArray, List.set_cons_zero, List.set_cons_succ]
                refine wpAnyH_ready (rs := [20]) (by kernel_rfl) (by simp) ?_
                refine AllReadyH.cons (o := ⟨none, _, _, _, _, _⟩) rfl (fun K hK => ?_) (AllReadyH.nil)
                obtain ⟨_, _, _, _, z0, z1, _, _⟩ := Ex.out.cell hik
                have y0 := Ex.out.free (i * 2)
                have y1 := Ex.out.free (i * 2 + 1)
                go_simp
                have hset := Ex.out.set hik (f := fun c => Mi i c ^^^ gm (Mi i j) (Mi j c)) Hn1.out Hn2.out
                have hfN := hset.2
                have hE := hset.1
                obtain ⟨v_1034, hw⟩ : ∃ x, x = (v_1031.setCell ⟨g, i * 2, none⟩ (.slice Bn k dn)).setCell ⟨g, i * 2 + 1, none⟩ (.slice Bn2 W dn2) := ⟨_, rfl⟩
                rw [← hw] at hfN hE ⊢
                clear hw z0 z1 y0 y1 hset Ex Hn1 Hn2
                have En := Lib.hid hE
                clear hE
                have hHeld := hHeld.trans hfN
                have hz_1035 := hfN.size
                refine hK.out _ _ hHeld (fun _ => ?_)
                clear hK K hfN
                try simp only [Act.put, List.setIfInBounds_toArray, List.set_cons_zero, List.set_cons_succ]
                refine wpAnyH_done (by kernel_rfl) ?_ _
                have HbF := Lib.hid hHeld
                clear hHeld
                obtain ⟨wf, hwf⟩ : ∃ x, x = v_1034 := ⟨_, rfl⟩
                rw [← hwf] at HbF En ⊢
                clear hwf
                go_wp2_with fail
                go_roundw
                case rel => exact ⟨i + 1, by omega, by omega, by go_num, by rw [HMi.out]; exact En.out, HfW.out.trans HbF.out⟩
                case measure => simp [intOf]; omega
              · have qC3 := C3.out
                have qC4 := C4.out

                go_simp
                refine hK.out _ _ hHeld (fun _ => ?_)
                clear hK K
                try simp only [Act.put, List.setIfInBounds_toArray, List.set_cons_zero, List.set_cons_succ]
                refine wpAnyH_ready (rs := [5]) (by kernel_rfl) (by simp) ?_
                refine AllReadyH.cons (o := ⟨some 90, _, _, _, _, _⟩) rfl (fun K hK => ?_) (AllReadyH.nil)
                have qC1 := C1.out
                have qC2 := C2.out

                go_simp
                refine hK.out _ _ hHeld (fun _ => ?_)
                clear hK K
                try simp only [Act.put, List.setIfInBounds_toArray, List.set_cons_zero, List.set_cons_succ]
                refine wpAnyH_ready (rs := [18]) (by kernel_rfl) (by simp) ?_
                refine AllReadyH.cons (o := ⟨some 103, _, _, _, _, _⟩) rfl (fun K hK => ?_) (AllReadyH.nil)
                go_simp
                have hh := less_any (Mi i j) (some ⟨gb, ob, none⟩) k di (rowL k (Mi i)) Bi2 W di2 (rowL W fun p => Mi i (k + p)) Bj k dj (rowL k (Mi j)) Bj2 W dj2 (rowL W fun p => Mi j (k + p)) v_1001 Si1.out Si2.out Sj1.out Sj2.out (by omega) hW
                rw [Hx.out] at hh
                refine hh.mono ?_; clear hh; rintro e v_1036 ⟨⟨vv, rfl, Bn, mn, dn, Bn2, mn2, dn2, rfl, hn1, hn2⟩, hbN⟩
                have hmn : mn = k := by
                  have := hn1.len
                  rw [cells_length, fld_length, rowL_length] at this
                  omega
                have hmn2 : mn2 = W := by
                  have := hn2.len
                  rw [cells_length, fld_length, rowL_length] at this
                  omega
                rw [hmn] at hn1
                rw [hmn2] at hn2
                rw [hmn, hmn2]
                rw [rowL_fld] at hn1 hn2
                have Hn1 := Lib.hid hn1
                have Hn2 := Lib.hid hn2
                have Ex := Lib.hid (Ed.out.later hbN)
                have hfN : Fr (fun k => k = g) v_1001 v_1036 := Fr.of_below hbN
                clear hbN hn1 hn2 hmn hmn2 mn mn2
                go_wp2_with fail
                have hHeld := hHeld.trans hfN
                have hz_1037 := hfN.size
                refine hK.out _ _ hHeld (fun _ => ?_)
                clear hK K hfN
                try simp only [Act.put, List.setIfInBounds_toArray, List.set_cons_zero, List.set_cons_succ]
                refine wpAnyH_take (i := 19) (oi := ⟨some 104, _, _, _, _, _⟩) (v := ?vg19_1038) rfl (by kernel_rfl) (by kernel_rfl) (by kernel_rfl) (fun _ _ _ h => h) (Or.inl ⟨by rfl, ?yg19_1038⟩) hHeld ?rg19_1038
                case yg19_1038 =>
                  intro wq hSw
                  (try dsimp only at hSw)
                  first | (go_simp; done) | (go_simp; with_reducible rfl)
                try simp only [Act.put, List.setIfInBounds_toArray, List.set_cons_zero, List.set_cons_succ]
                refine wpAnyH_ready (rs := [20]) (by kernel_rfl) (by simp) ?_
                refine AllReadyH.cons (o := ⟨none, _, _, _, _, _⟩) rfl (fun K hK => ?_) (AllReadyH.nil)
                obtain ⟨_, _, _, _, z0, z1, _, _⟩ := Ex.out.cell hik
                have y0 := Ex.out.free (i * 2)
                have y1 := Ex.out.free (i * 2 + 1)
                go_simp
                have hset := Ex.out.set hik (f := fun c => Mi i c ^^^ gm (Mi i j) (Mi j c)) Hn1.out Hn2.out
                have hfN := hset.2
                have hE := hset.1
                obtain ⟨v_1039, hw⟩ : ∃ x, x = (v_1036.setCell ⟨g, i * 2, none⟩ (.slice Bn k dn)).setCell ⟨g, i * 2 + 1, none⟩ (.slice Bn2 W dn2) := ⟨_, rfl⟩
                rw [← hw] at hfN hE ⊢
                clear hw z0 z1 y0 y1 hset Ex Hn1 Hn2
                have En := Lib.hid hE
                clear hE
                have hHeld := hHeld.trans hfN
                have hz_1040 := hfN.size
                refine hK.out _ _ hHeld (fun _ => ?_)
                clear hK K hfN
                try simp only [Act.put, List.setIfInBounds_toArray, List.set_cons_zero, List.set_cons_succ]
                refine wpAnyH_done (by kernel_rfl) ?_ _
                have HbF := Lib.hid hHeld
                clear hHeld
                obtain ⟨wf, hwf⟩ : ∃ x, x = v_1039 := ⟨_, rfl⟩
                rw [← hwf] at HbF En ⊢
                clear hwf
                go_wp2_with fail
                go_roundw
                case rel => exact ⟨i + 1, by omega, by omega, by go_num, by rw [HMi.out]; exact En.out, HfW.out.trans HbF.out⟩
                case measure => simp [intOf]; omega
            · have qC3 := C3.out
              have qC4 := C4.out

              go_simp
              refine hK.out _ _ hHeld (fun _ => ?_)
              clear hK K
              try simp only [Act.put, List.setIfInBounds_toArray, List.set_cons_zero, List.set_cons_succ]
              refine wpAnyH_ready (rs := [5, 10]) (by kernel_rfl) (by simp) ?_
              refine AllReadyH.cons (o := ⟨some 90, _, _, _, _, _⟩) rfl (fun K hK => ?_) (AllReadyH.cons (o := ⟨some 95, _, _, _, _, _⟩) rfl (fun K hK => ?_) (AllReadyH.nil))
              · have qC1 := C1.out
                have qC2 := C2.out

                go_simp
                refine hK.out _ _ hHeld (fun _ => ?_)
                clear hK K
                try simp only [Act.put, List.setIfInBounds_toArray, List.set_cons_zero, List.set_cons_succ]
                refine wpAnyH_ready (rs := [10]) (by kernel_rfl) (by simp) ?_
                refine AllReadyH.cons (o := ⟨some 95, _, _, _, _, _⟩) rfl (fun K hK => ?_) (AllReadyH.nil)
                have qC1 := C1.out

                go_simp
                refine hK.out _ _ hHeld (fun _ => ?_)
                clear hK K
                try simp only [Act.put, List.setIfInBounds_toArray, List.set_cons_zero, List.set_cons_succ]
                refine wpAnyH_take (i := 12) (oi := ⟨some 97, _, _, _, _, _⟩) (v := ?vg12_1041) rfl (by kernel_rfl) (by kernel_rfl) (by kernel_rfl) (fun _ _ _ h => h) (Or.inl ⟨by rfl, ?yg12_1041⟩) hHeld ?rg12_1041
                case yg12_1041 =>
                  intro wq hSw
                  (try dsimp only at hSw)
                  first | (go_simp; done) | (go_simp; with_reducible rfl)
                try simp only [Act.put, List.setIfInBounds_toArray, List.set_cons_zero, List.set_cons_succ]
                refine wpAnyH_take (i := 13) (oi := ⟨some 98, _, _, _, _, _⟩) (v := ?vg13_1042) rfl (by kernel_rfl) (by kernel_rfl) (by kernel_rfl) (fun _ _ _ h => h) (Or.inl ⟨by rfl, ?yg13_1042⟩) hHeld ?rg13_1042
                case yg13_1042 =>
                  intro wq hSw
                  (try dsimp only at hSw)
                  have q0 := hSw.cell_some X0.out (by show ¬ gb = g; exact hgb)
                  first | (go_simp; done) | (go_simp; with_reducible rfl)
                try simp only [Act.put, List.setIfInBounds_toArray, List.set_cons_zero, List.set_cons_succ]
                refine wpAnyH_ready (rs := [18]) (by kernel_rfl) (by simp) ?_
                refine AllReadyH.cons (o := ⟨some 103, _, _, _, _, _⟩) rfl (fun K hK => ?_) (AllReadyH.nil)
                go_simp
                have hh := less_any (Mi i j) (some ⟨gb, ob, none⟩) k di (rowL k (Mi i)) Bi2 W di2 (rowL W fun p => Mi i (k + p)) Bj k dj (rowL k (Mi j)) Bj2 W dj2 (rowL W fun p => Mi j (k + p)) v_1001 Si1.out Si2.out Sj1.out Sj2.out (by omega) hW
                rw [Hx.out] at hh
                refine hh.mono ?_; clear hh; rintro e v_1043 ⟨⟨vv, rfl, Bn, mn, dn, Bn2, mn2, dn2, rfl, hn1, hn2⟩, hbN⟩
                have hmn : mn = k := by
                  have := hn1.len
                  rw [cells_length, fld_length, rowL_length] at this
                  omega
                have hmn2 : mn2 = W := by
                  have := hn2.len
                  rw [cells_length, fld_length, rowL_length] at this
                  omega
                rw [hmn] at hn1
                rw [hmn2] at hn2
                rw [hmn, hmn2]
                rw [rowL_fld] at hn1 hn2
                have Hn1 := Lib.hid hn1
                have Hn2 := Lib.hid hn2
                have Ex := Lib.hid (Ed.out.later hbN)
                have hfN : Fr (fun k => k = g) v_1001 v_1043 := Fr.of_below hbN
                clear hbN hn1 hn2 hmn hmn2 mn mn2
                go_wp2_with fail
                have hHeld := hHeld.trans hfN
                have hz_1044 := hfN.size
                refine hK.out _ _ hHeld (fun _ => ?_)
                clear hK K hfN
                try simp only [Act.put, List.setIfInBounds_toArray, List.set_cons_zero, List.set_cons_succ]
                refine wpAnyH_take (i := 19) (oi := ⟨some 104, _, _, _, _, _⟩) (v := ?vg19_1045) rfl (by kernel_rfl) (by kernel_rfl) (by kernel_rfl) (fun _ _ _ h => h) (Or.inl ⟨by rfl, ?yg19_1045⟩) hHeld ?rg19_1045
                case yg19_1045 =>
                  intro wq hSw
                  (try dsimp only at hSw)
                  first | (go_simp; done) | (go_simp; with_reducible rfl)
                try simp only [Act.put, List.setIfInBounds_toArray, List.set_cons_zero, List.set_cons_succ]
                refine wpAnyH_ready (rs := [20]) (by kernel_rfl) (by simp) ?_
                refine AllReadyH.cons (o := ⟨none, _, _, _, _, _⟩) rfl (fun K hK => ?_) (AllReadyH.nil)
                obtain ⟨_, _, _, _, z0, z1, _, _⟩ := Ex.out.cell hik
                have y0 := Ex.out.free (i * 2)
                have y1 := Ex.out.free (i * 2 + 1)
                go_simp
                have hset := Ex.out.set hik (f := fun c => Mi i c ^^^ gm (Mi i j) (Mi j c)) Hn1.out Hn2.out
                have hfN := hset.2
                have hE := hset.1
                obtain ⟨v_1046, hw⟩ : ∃ x, x = (v_1043.setCell ⟨g, i * 2, none⟩ (.slice Bn k dn)).setCell ⟨g, i * 2 + 1, none⟩ (.slice Bn2 W dn2) := ⟨_, rfl⟩
                rw [← hw] at hfN hE ⊢
                clear hw z0 z1 y0 y1 hset Ex Hn1 Hn2
                have En := Lib.hid hE
                clear hE
                have hHeld := hHeld.trans hfN
                have hz_1047 := hfN.size
                refine hK.out _ _ hHeld (fun _ => ?_)
                clear hK K hfN
                try simp only [Act.put, List.setIfInBounds_toArray, List.set_cons_zero, List.set_cons_succ]
                refine wpAnyH_done (by kernel_rfl) ?_ _
                have HbF := Lib.hid hHeld
                clear hHeld
                obtain ⟨wf, hwf⟩ : ∃ x, x = v_1046 := ⟨_, rfl⟩
                rw [← hwf] at HbF En ⊢
                clear hwf
                go_wp2_with fail
                go_roundw
                case rel => exact ⟨i + 1, by omega, by omega, by go_num, by rw [HMi.out]; exact En.out, HfW.out.trans HbF.out⟩
                case measure => simp [intOf]; omega
              · have qC1 := C1.out

                go_simp
                refine hK.out _ _ hHeld (fun _ => ?_)
                clear hK K
                try simp only [Act.put, List.setIfInBounds_toArray, List.set_cons_zero, List.set_cons_succ]
                refine wpAnyH_take (i := 12) (oi := ⟨some 97, _, _, _, _, _⟩) (v := ?vg12_1048) rfl (by kernel_rfl) (by kernel_rfl) (by kernel_rfl) (fun _ _ _ h => h) (Or.inl ⟨by rfl, ?yg12_1048⟩) hHeld ?rg12_1048
                case yg12_1048 =>
                  intro wq hSw
                  (try dsimp only at hSw)
                  first | (go_simp; done) | (go_simp; with_reducible rfl)
                try simp only [Act.put, List.setIfInBounds_toArray, List.set_cons_zero, List.set_cons_succ]
                refine wpAnyH_take (i := 13) (oi := ⟨some 98, _, _, _, _, _⟩) (v := ?vg13_1049) rfl (by kernel_rfl) (by kernel_rfl) (by kernel_rfl) (fun _ _ _ h => h) (Or.inl ⟨by rfl, ?yg13_1049⟩) hHeld ?rg13_1049
                case yg13_1049 =>
                  intro wq hSw
                  (try dsimp only at hSw)
                  have q0 := hSw.cell_some X0.out (by show ¬ gb = g; exact hgb)
                  first | (go_simp; done) | (go_simp; with_reducible rfl)
                try simp only [Act.put, List.setIfInBounds_toArray, List.set_cons_zero, List.set_cons_succ]
                refine wpAnyH_ready (rs := [5]) (by kernel_rfl) (by simp) ?_
                refine AllReadyH.cons (o := ⟨some 90, _, _, _, _, _⟩) rfl (fun K hK => ?_) (AllReadyH.nil)
                have qC1 := C1.out
                have qC2 := C2.out

                go_simp
                refine hK.out _ _ hHeld (fun _ => ?_)
                clear hK K
                try simp only [Act.put, List.setIfInBounds_toArray, List.set_cons_zero, List.set_cons_succ]
                refine wpAnyH_ready (rs := [18]) (by kernel_rfl) (by simp) ?_
                refine AllReadyH.cons (o := ⟨some 103, _, _, _, _, _⟩) rfl (fun K hK => ?_) (AllReadyH.nil)
                go_simp
                have hh := less_any (Mi i j) (some ⟨gb, ob, none⟩) k di (rowL k (Mi i)) Bi2 W di2 (rowL W fun p => Mi i (k + p)) Bj k dj (rowL k (Mi j)) Bj2 W dj2 (rowL W fun p => Mi j (k + p)) v_1001 Si1.out Si2.out Sj1.out Sj2.out (by omega) hW
                rw [Hx.out] at hh
                refine hh.mono ?_; clear hh; rintro e v_1050 ⟨⟨vv, rfl, Bn, mn, dn, Bn2, mn2, dn2, rfl, hn1, hn2⟩, hbN⟩
                have hmn : mn = k := by
                  have := hn1.len
                  rw [cells_length, fld_length, rowL_length] at this
                  omega
                have hmn2 : mn2 = W := by
                  have := hn2.len
                  rw [cells_length, fld_length, rowL_length] at this
                  omega
                rw [hmn] at hn1
                rw [hmn2] at hn2
                rw [hmn, hmn2]
                rw [rowL_fld] at hn1 hn2
                have Hn1 := Lib.hid hn1
                have Hn2 := Lib.hid hn2
                have Ex := Lib.hid (Ed.out.later hbN)
                have hfN : Fr (fun k => k = g) v_1001 v_1050 := Fr.of_below hbN
                clear hbN hn1 hn2 hmn hmn2 mn mn2
                go_wp2_with fail
                have hHeld := hHeld.trans hfN
                have hz_1051 := hfN.size
                refine hK.out _ _ hHeld (fun _ => ?_)
                clear hK K hfN
                try simp only [Act.put, List.setIfInBounds_toArray, List.set_cons_zero, List.set_cons_succ]
                refine wpAnyH_take (i := 19) (oi := ⟨some 104, _, _, _, _, _⟩) (v := ?vg19_1052) rfl (by kernel_rfl) (by kernel_rfl) (by kernel_rfl) (fun _ _ _ h => h) (Or.inl ⟨by rfl, ?yg19_1052⟩) hHeld ?rg19_1052
                case yg19_1052 =>
                  intro wq hSw
                  (try dsimp only at hSw)
                  first | (go_simp; done) | (go_simp; with_reducible rfl)
                try simp only [Act.put, List.setIfInBounds_toArray, List.set_cons_zero, List.set_cons_succ]
                refine wpAnyH_ready (rs := [20]) (by kernel_rfl) (by simp) ?_
                refine AllReadyH.cons (o := ⟨none, _, _, _, _, _⟩) rfl (fun K hK => ?_) (AllReadyH.nil)
                obtain ⟨_, _, _, _, z0, z1, _, _⟩ := Ex.out.cell hik
                have y0 := Ex.out.free (i * 2)
                have y1 := Ex.out.free (i * 2 + 1)
                go_simp
                have hset := Ex.out.set hik (f := fun c => Mi i c ^^^ gm (Mi i j) (Mi j c)) Hn1.out Hn2.out
                have hfN := hset.2
                have hE := hset.1
                obtain ⟨v_1053, hw⟩ : ∃ x, x = (v_1050.setCell ⟨g, i * 2, none⟩ (.slice Bn k dn)).setCell ⟨g, i * 2 + 1, none⟩ (.slice Bn2 W dn2) := ⟨_, rfl⟩
                rw [← hw] at hfN hE ⊢
                clear hw z0 z1 y0 y1 hset Ex Hn1 Hn2
                have En := Lib.hid hE
                clear hE
                have hHeld := hHeld.trans hfN
                have hz_1054 := hfN.size
                refine hK.out _ _ hHeld (fun _ => ?_)
                clear hK K hfN
                try simp only [Act.put, List.setIfInBounds_toArray, List.set_cons_zero, List.set_cons_succ]
                refine wpAnyH_done (by kernel_rfl) ?_ _
                have HbF := Lib.hid hHeld
                clear hHeld
                obtain ⟨wf, hwf⟩ : ∃ x, x = v_1053 := ⟨_, rfl⟩
                rw [← hwf] at HbF En ⊢
                clear hwf
                go_wp2_with fail
                go_roundw
                case rel => exact ⟨i + 1, by omega, by omega, by go_num, by rw [HMi.out]; exact En.out, HfW.out.trans HbF.out⟩
                case measure => simp [intOf]; omega
          · obtain rfl : i = k := by omega
            have hiki : ¬ ((i : Int) < (i : Int)) := by omega
            go_wp2_with fail
            go_roundw
            case rel =>
              have hst : stepD i Mj j a = fd M5 j (j + 1) i := by rw [HM5.out]; rfl
              exact ⟨j + 1, stepD i Mj j a, by omega, by go_num, by rw [hst]; exact hE, stepD_ut U.out T.out hlt haj hak Hpa.out, stepD_tl T.out hlt haj hak Hpa.out, stepD_sol So.out hlt hak, Hb6.out.trans (HfW.out.below hs6 (fun b hb => by have hb : b = g := hb; omega))⟩
            case measure => simp [intOf]; omega
    · obtain rfl : k = j := by omega
      have hjn : ¬ ((k : Int) < (k : Int)) := by omega
      have hmk := makes_eq (k : Int) k rfl (by omega)
      have hBk0 := Lib.hid (Bk.start U.out)
      have hgo := E.out.lt
      clear T U
      go_upto_region 19 with (fail)
      have hb1 : Below wo.heap.size wo (wo.alloc (.cells (madeCells #[.slice none 0 0] k) 39)) := (Below.refl _ _).alloc (Nat.le_refl _) _
      have hF0 := Fil.nils wo k
      obtain ⟨v1, hv1⟩ : ∃ x, x = wo.alloc (.cells (madeCells #[.slice none 0 0] k) 39) := ⟨_, rfl⟩
      obtain ⟨go, hgod⟩ : ∃ x, x = wo.heap.size := ⟨_, rfl⟩
      rw [← hv1] at hb1 hF0 ⊢
      rw [← hgod] at hF0 ⊢
      have E1 := Lib.hid (E.out.later hb1)
      have Hb1 := Lib.hid (Hb.out.trans (hb1.mono hszo))
      have F0 := Lib.hid hF0
      have hne : go ≠ g := by omega
      have hgow : w.heap.size ≤ go := by omega
      clear hv1 hb1 hF0 hgod hmk E Hb
      go_wp2_with fail
      go_loopw [12] (fun jv wr => ∃ (j : Nat) (Mq : Mx) (cur : Array Value), j ≤ k ∧ jv = .int .i64 ((j : Int) - 1) ∧ EqsAt wr g k W Mq ∧ Bk k j Mq ∧ Sol k W X Mq ∧ Fil wr go k cur (outL k W X j) ∧ Below w.heap.size w wr) (fun jv _ => (intOf jv + 1).toNat)
      case atStart => exact ⟨k, Mj, _, by omega, by go_num, E1.out, hBk0.out, So.out, by rw [outL_all]; exact F0.out, Hb1.out⟩
      case round =>
        obtain ⟨wq, rfl⟩ : ∃ x, x = wr := ⟨_, rfl⟩
        obtain ⟨j, Mq, cu, hq, hqv, hE, hB, hS, hF, hb⟩ := hrel
        have E := Lib.hid hE; have B := Lib.hid hB; have S := Lib.hid hS; have F := Lib.hid hF; have Hb := Lib.hid hb
        have hszq := hb.size
        clear hE hB hS hF hb
        rcases j with _ | j
        · subst hqv
          go_wp2_with fail
          go_ret
          have := F.out.gr (by simp [outL]) (by unfold maxLen; omega)
          exact ⟨⟨go, rfl, by simpa [outL] using this⟩, Hb.out⟩
        · obtain rfl : _ = Value.int .i64 (j : Int) := hqv.trans (by congr 1; omega)
          clear hqv
          have hq0 : (0 : Int) ≤ (j : Int) := by omega
          go_wp2_with fail
          go_loopw [13] (fun iv wi => ∃ i : Nat, i ≤ j ∧ iv = .int .i64 (i : Int) ∧ EqsAt wi g k W (fd Mq j 0 i) ∧ Fr (fun k => k = g) wq wi) (fun iv _ => j - (intOf iv).toNat)
          case atStart => exact ⟨0, by omega, rfl, by rw [fd_start]; exact E.out, Fr.refl _ _⟩
          case round =>
            obtain ⟨wi, rfl⟩ : ∃ x, x = wr := ⟨_, rfl⟩
            obtain ⟨i, hiq, rfl, hE, hfW⟩ := hrel
            have HfW := Lib.hid hfW
            clear hfW
            by_cases hiq2 : i < j
            · have hMi := fd_next Mq j 0 i (by omega) (.inr (by omega))
              obtain ⟨Mi, hMid⟩ : ∃ M, M = fd Mq j 0 i := ⟨_, rfl⟩
              rw [← hMid] at hE hMi
              have HMi := Lib.hid hMi
              have E := Lib.hid hE
              have hjk : j < k := by omega
              have hik : i < k := by omega
              have hiki : (i : Int) < (k : Int) := by omega
              have hjki : (j : Int) < (k : Int) := by omega
              clear hMi hE hMid
              obtain ⟨Bi, di, Bi2, di2, ci1, ci2, si1, si2⟩ := E.out.cell hik
              obtain ⟨Bj, dj, Bj2, dj2, cj1, cj2, sj1, sj2⟩ := E.out.cell hjk
              obtain ⟨gb, ob, rfl, hc⟩ := si1.at_ hjk
              have x0 := hc j _ (cells_get _ j (by rw [rowL_length]; exact hjk))
              rw [show (rowL k (Mi i))[j]'(by rw [rowL_length]; exact hjk) = Mi i j from by simp [rowL], bv] at x0
              have hgb : ¬ gb = g := E.out.off si1 (by omega) rfl
              obtain ⟨x, hx⟩ : ∃ x : Nat, x = (Mi i j).toNat := ⟨_, rfl⟩
              rw [← hx] at x0
              have Hx := Lib.hid (show (((Mi i j).toNat : Nat) : Int) = (x : Int) by rw [hx])
              have bd : Below wi.heap.size wi wi.drew := Below.drew (Below.refl _ _)
              have C1 := Lib.hid (show wi.drew.cell? ⟨g, i * 2, none⟩ = some (.slice (some ⟨gb, ob, none⟩) k di) from ci1)
              have C2 := Lib.hid (show wi.drew.cell? ⟨g, i * 2 + 1, none⟩ = some (.slice Bi2 W di2) from ci2)
              have C3 := Lib.hid (show wi.drew.cell? ⟨g, j * 2, none⟩ = some (.slice Bj k dj) from cj1)
              have C4 := Lib.hid (show wi.drew.cell? ⟨g, j * 2 + 1, none⟩ = some (.slice Bj2 W dj2) from cj2)
              have X0 := Lib.hid (show wi.cell? ⟨gb, ob + j, none⟩ = some (.int .u8 (x : Int)) from x0)
              have Ed := Lib.hid (E.out.later bd)
              have Si1 := Lib.hid (si1.below bd (Nat.le_refl _))
              have Si2 := Lib.hid (si2.below bd (Nat.le_refl _))
              have Sj1 := Lib.hid (sj1.below bd (Nat.le_refl _))
              have Sj2 := Lib.hid (sj2.below bd (Nat.le_refl _))
              clear bd hc x0 hx ci1 ci2 cj1 cj2 si1 si2 sj1 sj2
              go_upto_region 25 with (fail)
              refine wp_region_held_drew (S := fun w' => Fr (fun k => k = g) wi w') (by kernel_rfl) (Fr.drew (Fr.refl _ _)) (fun hHeld => ?_)
              clear hHeld
              have hHeld : Fr (fun k => k = g) wi wi.drew := Fr.drew (Fr.refl _ _)
              have hz_0 : wi.heap.size ≤ wi.drew.heap.size := Nat.le_refl _
              obtain ⟨v_2001, hw⟩ : ∃ v_2001, v_2001 = wi.drew := ⟨_, rfl⟩
              rw [← hw] at hHeld hz_0 C1 C2 C3 C4 Ed Si1 Si2 Sj1 Sj2 ⊢
              clear hw
              refine wpAnyH_take (i := 0) (oi := ⟨some 118, _, _, _, _, _⟩) (v := ?vg0_2002) rfl (by kernel_rfl) (by kernel_rfl) (by kernel_rfl) (fun _ _ _ h => h) (Or.inl ⟨by rfl, ?yg0_2002⟩) hHeld ?rg0_2002
              case yg0_2002 =>
                intro wq hSw
                (try dsimp only at hSw)
                first | (go_simp; done) | (go_simp; with_reducible rfl)
              try simp only [Act.put, List.setIfInBounds_toArray, List.set_cons_zero, List.set_cons_succ]
              refine wpAnyH_take (i := 1) (oi := ⟨some 119, _, _, _, _, _⟩) (v := ?vg1_2003) rfl (by kernel_rfl) (by kernel_rfl) (by kernel_rfl) (fun _ _ _ h => h) (Or.inl ⟨by rfl, ?yg1_2003⟩) hHeld ?rg1_2003
              case yg1_2003 =>
                intro wq hSw
                (try dsimp only at hSw)
                first | (go_simp; done) | (go_simp; with_reducible rfl)
              try simp only [Act.put, List.setIfInBounds_toArray, List.set_cons_zero, List.set_cons_succ]
              refine wpAnyH_take (i := 2) (oi := ⟨some 120, _, _, _, _, _⟩) (v := ?vg2_2004) rfl (by kernel_rfl) (by kernel_rfl) (by kernel_rfl) (fun _ _ _ h => h) (Or.inl ⟨by rfl, ?yg2_2004⟩) hHeld ?rg2_2004
              case yg2_2004 =>
                intro wq hSw
                (try dsimp only at hSw)
                first | (go_simp; done) | (go_simp; with_reducible rfl)
              try simp only [Act.put, List.setIfInBounds_toArray, List.set_cons_zero, List.set_cons_succ]
              refine wpAnyH_take (i := 3) (oi := ⟨some 121, _, _, _, _, _⟩) (v := ?vg3_2005) rfl (by kernel_rfl) (by kernel_rfl) (by kernel_rfl) (fun _ _ _ h => h) (Or.inl ⟨by rfl, ?yg3_2005⟩) hHeld ?rg3_2005
              case yg3_2005 =>
                intro wq hSw
                (try dsimp only at hSw)
                first | (go_simp; done) | (go_simp; with_reducible rfl)
              try simp only [Act.put, List.setIfInBounds_toArray, List.set_cons_zero, List.set_cons_succ]
              refine wpAnyH_take (i := 4) (oi := ⟨some 122, _, _, _, _, _⟩) (v := ?vg4_2006) rfl (by kernel_rfl) (by kernel_rfl) (by kernel_rfl) (fun _ _ _ h => h) (Or.inl ⟨by rfl, ?yg4_2006⟩) hHeld ?rg4_2006
              case yg4_2006 =>
                intro wq hSw
                (try dsimp only at hSw)
                first | (go_simp; done) | (go_simp; with_reducible rfl)
              try simp only [Act.put, List.setIfInBounds_toArray, List.set_cons_zero, List.set_cons_succ]
              refine wpAnyH_take (i := 6) (oi := ⟨some 124, _, _, _, _, _⟩) (v := ?vg6_2007) rfl (by kernel_rfl) (by kernel_rfl) (by kernel_rfl) (fun _ _ _ h => h) (Or.inl ⟨by rfl, ?yg6_2007⟩) hHeld ?rg6_2007
              case yg6_2007 =>
                intro wq hSw
                (try dsimp only at hSw)
                first | (go_simp; done) | (go_simp; with_reducible rfl)
              try simp only [Act.put, List.setIfInBounds_toArray, List.set_cons_zero, List.set_cons_succ]
              refine wpAnyH_take (i := 7) (oi := ⟨some 125, _, _, _, _, _⟩) (v := ?vg7_2008) rfl (by kernel_rfl) (by kernel_rfl) (by kernel_rfl) (fun _ _ _ h => h) (Or.inl ⟨by rfl, ?yg7_2008⟩) hHeld ?rg7_2008
              case yg7_2008 =>
                intro wq hSw
                (try dsimp only at hSw)
                first | (go_simp; done) | (go_simp; with_reducible rfl)
              try simp only [Act.put, List.setIfInBounds_toArray, List.set_cons_zero, List.set_cons_succ]
              refine wpAnyH_take (i := 8) (oi := ⟨some 126, _, _, _, _, _⟩) (v := ?vg8_2009) rfl (by kernel_rfl) (by kernel_rfl) (by kernel_rfl) (fun _ _ _ h => h) (Or.inl ⟨by rfl, ?yg8_2009⟩) hHeld ?rg8_2009
              case yg8_2009 =>
                intro wq hSw
                (try dsimp only at hSw)
                first | (go_simp; done) | (go_simp; with_reducible rfl)
              try simp only [Act.put, List.setIfInBounds_toArray, List.set_cons_zero, List.set_cons_succ]
              refine wpAnyH_take (i := 9) (oi := ⟨some 127, _, _, _, _, _⟩) (v := ?vg9_2010) rfl (by kernel_rfl) (by kernel_rfl) (by kernel_rfl) (fun _ _ _ h => h) (Or.inl ⟨by rfl, ?yg9_2010⟩) hHeld ?rg9_2010
              case yg9_2010 =>
                intro wq hSw
                (try dsimp only at hSw)
                first | (go_simp; done) | (go_simp; with_reducible rfl)
              try simp only [Act.put, List.setIfInBounds_toArray, List.set_cons_zero, List.set_cons_succ]
              refine wpAnyH_take (i := 11) (oi := ⟨some 129, _, _, _, _, _⟩) (v := ?vg11_2011) rfl (by kernel_rfl) (by kernel_rfl) (by kernel_rfl) (fun _ _ _ h => h) (Or.inl ⟨by rfl, ?yg11_2011⟩) hHeld ?rg11_2011
              case yg11_2011 =>
                intro wq hSw
                (try dsimp only at hSw)
                first | (go_simp; done) | (go_simp; with_reducible rfl)
              try simp only [Act.put, List.setIfInBounds_toArray, List.set_cons_zero, List.set_cons_succ]
              refine wpAnyH_take (i := 14) (oi := ⟨some 132, _, _, _, _, _⟩) (v := ?vg14_2012) rfl (by kernel_rfl) (by kernel_rfl) (by kernel_rfl) (fun _ _ _ h => h) (Or.inl ⟨by rfl, ?yg14_2012⟩) hHeld ?rg14_2012
              case yg14_2012 =>
                intro wq hSw
                (try dsimp only at hSw)
                first | (go_simp; done) | (go_simp; with_reducible rfl)
              try simp only [Act.put, List.setIfInBounds_toArray, List.set_cons_zero, List.set_cons_succ]
              refine wpAnyH_take (i := 15) (oi := ⟨some 133, _, _, _, _, _⟩) (v := ?vg15_2013) rfl (by kernel_rfl) (by kernel_rfl) (by kernel_rfl) (fun _ _ _ h => h) (Or.inl ⟨by rfl, ?yg15_2013⟩) hHeld ?rg15_2013
              case yg15_2013 =>
                intro wq hSw
                (try dsimp only at hSw)
                first | (go_simp; done) | (go_simp; with_reducible rfl)
              try simp only [Act.put, List.setIfInBounds_toArray, List.set_cons_zero, List.set_cons_succ]
              refine wpAnyH_take (i := 16) (oi := ⟨some 134, _, _, _, _, _⟩) (v := ?vg16_2014) rfl (by kernel_rfl) (by kernel_rfl) (by kernel_rfl) (fun _ _ _ h => h) (Or.inl ⟨by rfl, ?yg16_2014⟩) hHeld ?rg16_2014
              case yg16_2014 =>
                intro wq hSw
                (try dsimp only at hSw)
                first | (go_simp; done) | (go_simp; with_reducible rfl)
              try simp only [Act.put, List.setIfInBounds_toArray, List.set_cons_zero, List.set_cons_succ]
              refine wpAnyH_ready (rs := [5, 10, 17]) (by kernel_rfl) (by simp) ?_
              refine AllReadyH.cons (o := ⟨some 123, _, _, _, _, _⟩) rfl (fun K hK => ?_) (AllReadyH.cons (o := ⟨some 128, _, _, _, _, _⟩) rfl (fun K hK => ?_) (AllReadyH.cons (o := ⟨some 135, _, _, _, _, _⟩) rfl (fun K hK => ?_) (AllReadyH.nil)))
              · have qC1 := C1.out
                have qC2 := C2.out

                go_simp
                refine hK.out _ _ hHeld (fun _ => ?_)
                clear hK K
                try simp only [Act.put, List.setIfInBounds_toArray, List.set_cons_zero, List.set_cons_succ]
                refine wpAnyH_ready (rs := [10, 17]) (by kernel_rfl) (by simp) ?_
                refine AllReadyH.cons (o := ⟨some 128, _, _, _, _, _⟩) rfl (fun K hK => ?_) (AllReadyH.cons (o := ⟨some 135, _, _, _, _, _⟩) rfl (fun K hK => ?_) (AllReadyH.nil))
                · have qC1 := C1.out

                  go_simp
                  refine hK.out _ _ hHeld (fun _ => ?_)
                  clear hK K
                  try simp only [Act.put, List.setIfInBounds_toArray, List.set_cons_zero, List.set_cons_succ]
                  refine wpAnyH_take (i := 12) (oi := ⟨some 130, _, _, _, _, _⟩) (v := ?vg12_2015) rfl (by kernel_rfl) (by kernel_rfl) (by kernel_rfl) (fun _ _ _ h => h) (Or.inl ⟨by rfl, ?yg12_2015⟩) hHeld ?rg12_2015
                  case yg12_2015 =>
                    intro wq hSw
                    (try dsimp only at hSw)
                    first | (go_simp; done) | (go_simp; with_reducible rfl)
                  try simp only [Act.put, List.setIfInBounds_toArray, List.set_cons_zero, List.set_cons_succ]
                  refine wpAnyH_take (i := 13) (oi := ⟨some 131, _, _, _, _, _⟩) (v := ?vg13_2016) rfl (by kernel_rfl) (by kernel_rfl) (by kernel_rfl) (fun _ _ _ h => h) (Or.inl ⟨by rfl, ?yg13_2016⟩) hHeld ?rg13_2016
                  case yg13_2016 =>
                    intro wq hSw
                    (try dsimp only at hSw)
                    have q0 := hSw.cell_some X0.out (by show ¬ gb = g; exact hgb)
                    first | (go_simp; done) | (go_simp; with_reducible rfl)
                  try simp only [Act.put, List.setIfInBounds_toArray, List.set_cons_zero, List.set_cons_succ]
                  refine wpAnyH_ready (rs := [17]) (by kernel_rfl) (by simp) ?_
                  refine AllReadyH.cons (o := ⟨some 135, _, _, _, _, _⟩) rfl (fun K hK => ?_) (AllReadyH.nil)
                  have qC3 := C3.out
                  have qC4 := C4.out

                  go_simp
                  refine hK.out _ _ hHeld (fun _ => ?_)
                  clear hK K
                  try simp only [Act.put, List.setIfInBounds_toArray, List.set_cons_zero, List.set_cons_succ]
                  refine wpAnyH_ready (rs := [18]) (by kernel_rfl) (by simp) ?_
                  refine AllReadyH.cons (o := ⟨some 136, _, _, _, _, _⟩) rfl (fun K hK => ?_) (AllReadyH.nil)
                  go_simp
                  have hh := less_any (Mi i j) (some ⟨gb, ob, none⟩) k di (rowL k (Mi i)) Bi2 W di2 (rowL W fun p => Mi i (k + p)) Bj k dj (rowL k (Mi j)) Bj2 W dj2 (rowL W fun p => Mi j (k + p)) v_2001 Si1.out Si2.out Sj1.out Sj2.out (by omega) hW
                  rw [Hx.out] at hh
                  refine hh.mono ?_; clear hh; rintro e v_2017 ⟨⟨vv, rfl, Bn, mn, dn, Bn2, mn2, dn2, rfl, hn1, hn2⟩, hbN⟩
                  have hmn : mn = k := by
                    have := hn1.len
                    rw [cells_length, fld_length, rowL_length] at this
                    omega
                  have hmn2 : mn2 = W := by
                    have := hn2.len
                    rw [cells_length, fld_length, rowL_length] at this
                    omega
                  rw [hmn] at hn1
                  rw [hmn2] at hn2
                  rw [hmn, hmn2]
                  rw [rowL_fld] at hn1 hn2
                  have Hn1 := Lib.hid hn1
                  have Hn2 := Lib.hid hn2
                  have Ex := Lib.hid (Ed.out.later hbN)
                  have hfN : Fr (fun k => k = g) v_2001 v_2017 := Fr.of_below hbN
                  clear hbN hn1 hn2 hmn hmn2 mn mn2
                  go_wp2_with fail
                  have hHeld := hHeld.trans hfN
                  have hz_2018 := hfN.size
                  refine hK.out _ _ hHeld (fun _ => ?_)
                  clear hK K hfN
                  try simp only [Act.put, List.setIfInBounds_toArray, List.set_cons_zero, List.set_cons_succ]
                  refine wpAnyH_take (i := 19) (oi := ⟨some 137, _, _, _, _, _⟩) (v := ?vg19_2019) rfl (by kernel_rfl) (by kernel_rfl) (by kernel_rfl) (fun _ _ _ h => h) (Or.inl ⟨by rfl, ?yg19_2019⟩) hHeld ?rg19_2019
                  case yg19_2019 =>
                    intro wq hSw
                    (try dsimp only at hSw)
                    first | (go_simp; done) | (go_simp; with_reducible rfl)
                  try simp only [Act.put, List.setIfInBounds_toArray, List.set_cons_zero, List.set_cons_succ]
                  refine wpAnyH_ready (rs := [20]) (by kernel_rfl) (by simp) ?_
                  refine AllReadyH.cons (o := ⟨none, _, _, _, _, _⟩) rfl (fun K hK => ?_) (AllReadyH.nil)
                  obtain ⟨_, _, _, _, z0, z1, _, _⟩ := Ex.out.cell hik
                  have y0 := Ex.out.free (i * 2)
                  have y1 := Ex.out.free (i * 2 + 1)
                  go_simp
                  have hset := Ex.out.set hik (f := fun c => Mi i c ^^^ gm (Mi i j) (Mi j c)) Hn1.out Hn2.out
                  have hfN := hset.2
                  have hE := hset.1
                  obtain ⟨v_2020, hw⟩ : ∃ x, x = (v_2017.setCell ⟨g, i * 2, none⟩ (.slice Bn k dn)).setCell ⟨g, i * 2 + 1, none⟩ (.slice Bn2 W dn2) := ⟨_, rfl⟩
                  rw [← hw] at hfN hE ⊢
                  clear hw z0 z1 y0 y1 hset Ex Hn1 Hn2
                  have En := Lib.hid hE
                  clear hE
                  have hHeld := hHeld.trans hfN
                  have hz_2021 := hfN.size
                  refine hK.out _ _ hHeld (fun _ => ?_)
                  clear hK K hfN
                  try simp only [Act.put, List.setIfInBounds_toArray, List.set_cons_zero, List.set_cons_succ]
                  refine wpAnyH_done (by kernel_rfl) ?_ _
                  have HbF := Lib.hid hHeld
                  clear hHeld
                  obtain ⟨wf, hwf⟩ : ∃ x, x = v_2020 := ⟨_, rfl⟩
                  rw [← hwf] at HbF En ⊢
                  clear hwf
                  go_wp2_with fail
                  go_roundw
                  case rel => exact ⟨i + 1, by omega, by go_num, by rw [HMi.out]; exact En.out, HfW.out.trans HbF.out⟩
                  case measure => simp [intOf]; omega
                · have qC3 := C3.out
                  have qC4 := C4.out

                  go_simp
                  refine hK.out _ _ hHeld (fun _ => ?_)
                  clear hK K
                  try simp only [Act.put, List.setIfInBounds_toArray, List.set_cons_zero, List.set_cons_succ]
                  refine wpAnyH_ready (rs := [10]) (by kernel_rfl) (by simp) ?_
                  refine AllReadyH.cons (o := ⟨some 128, _, _, _, _, _⟩) rfl (fun K hK => ?_) (AllReadyH.nil)
                  have qC1 := C1.out

                  go_simp
                  refine hK.out _ _ hHeld (fun _ => ?_)
                  clear hK K
                  try simp only [Act.put, List.setIfInBounds_toArray, List.set_cons_zero, List.set_cons_succ]
                  refine wpAnyH_take (i := 12) (oi := ⟨some 130, _, _, _, _, _⟩) (v := ?vg12_2022) rfl (by kernel_rfl) (by kernel_rfl) (by kernel_rfl) (fun _ _ _ h => h) (Or.inl ⟨by rfl, ?yg12_2022⟩) hHeld ?rg12_2022
                  case yg12_2022 =>
                    intro wq hSw
                    (try dsimp only at hSw)
                    first | (go_simp; done) | (go_simp; with_reducible rfl)
                  try simp only [Act.put, List.setIfInBounds_toArray, List.set_cons_zero, List.set_cons_succ]
                  refine wpAnyH_take (i := 13) (oi := ⟨some 131, _, _, _, _, _⟩) (v := ?vg13_2023) rfl (by kernel_rfl) (by kernel_rfl) (by kernel_rfl) (fun _ _ _ h => h) (Or.inl ⟨by rfl, ?yg13_2023⟩) hHeld ?rg13_2023
                  case yg13_2023 =>
                    intro wq hSw
                    (try dsimp only at hSw)
                    have q0 := hSw.cell_some X0.out (by show ¬ gb = g; exact hgb)
                    first | (go_simp; done) | (go_simp; with_reducible rfl)
                  try simp only [Act.put, List.setIfInBounds_toArray, List.set_cons_zero, List.set_cons_succ]
                  refine wpAnyH_ready (rs := [18]) (by kernel_rfl) (by simp) ?_
                  refine AllReadyH.cons (o := ⟨some 136, _, _, _, _, _⟩) rfl (fun K hK => ?_) (AllReadyH.nil)
                  go_simp
                  have hh := less_any (Mi i j) (some ⟨gb, ob, none⟩) k di (rowL k (Mi i)) Bi2 W di2 (rowL W fun p => Mi i (k + p)) Bj k dj (rowL k (Mi j)) Bj2 W dj2 (rowL W fun p => Mi j (k + p)) v_2001 Si1.out Si2.out Sj1.out Sj2.out (by omega) hW
                  rw [Hx.out] at hh
                  refine hh.mono ?_; clear hh; rintro e v_2024 ⟨⟨vv, rfl, Bn, mn, dn, Bn2, mn2, dn2, rfl, hn1, hn2⟩, hbN⟩
                  have hmn : mn = k := by
                    have := hn1.len
                    rw [cells_length, fld_length, rowL_length] at this
                    omega
                  have hmn2 : mn2 = W := by
                    have := hn2.len
                    rw [cells_length, fld_length, rowL_length] at this
                    omega
                  rw [hmn] at hn1
                  rw [hmn2] at hn2
                  rw [hmn, hmn2]
                  rw [rowL_fld] at hn1 hn2
                  have Hn1 := Lib.hid hn1
                  have Hn2 := Lib.hid hn2
                  have Ex := Lib.hid (Ed.out.later hbN)
                  have hfN : Fr (fun k => k = g) v_2001 v_2024 := Fr.of_below hbN
                  clear hbN hn1 hn2 hmn hmn2 mn mn2
                  go_wp2_with fail
                  have hHeld := hHeld.trans hfN
                  have hz_2025 := hfN.size
                  refine hK.out _ _ hHeld (fun _ => ?_)
                  clear hK K hfN
                  try simp only [Act.put, List.setIfInBounds_toArray, List.set_cons_zero, List.set_cons_succ]
                  refine wpAnyH_take (i := 19) (oi := ⟨some 137, _, _, _, _, _⟩) (v := ?vg19_2026) rfl (by kernel_rfl) (by kernel_rfl) (by kernel_rfl) (fun _ _ _ h => h) (Or.inl ⟨by rfl, ?yg19_2026⟩) hHeld ?rg19_2026
                  case yg19_2026 =>
                    intro wq hSw
                    (try dsimp only at hSw)
                    first | (go_simp; done) | (go_simp; with_reducible rfl)
                  try simp only [Act.put, List.setIfInBounds_toArray, List.set_cons_zero, List.set_cons_succ]
                  refine wpAnyH_ready (rs := [20]) (by kernel_rfl) (by simp) ?_
                  refine AllReadyH.cons (o := ⟨none, _, _, _, _, _⟩) rfl (fun K hK => ?_) (AllReadyH.nil)
                  obtain ⟨_, _, _, _, z0, z1, _, _⟩ := Ex.out.cell hik
                  have y0 := Ex.out.free (i * 2)
                  have y1 := Ex.out.free (i * 2 + 1)
                  go_simp
                  have hset := Ex.out.set hik (f := fun c => Mi i c ^^^ gm (Mi i j) (Mi j c)) Hn1.out Hn2.out
                  have hfN := hset.2
                  have hE := hset.1
                  obtain ⟨v_2027, hw⟩ : ∃ x, x = (v_2024.setCell ⟨g, i * 2, none⟩ (.slice Bn k dn)).setCell ⟨g, i * 2 + 1, none⟩ (.slice Bn2 W dn2) := ⟨_, rfl⟩
                  rw [← hw] at hfN hE ⊢
                  clear hw z0 z1 y0 y1 hset Ex Hn1 Hn2
                  have En := Lib.hid hE
                  clear hE
                  have hHeld := hHeld.trans hfN
                  have hz_2028 := hfN.size
                  refine hK.out _ _ hHeld (fun _ => ?_)
                  clear hK K hfN
                  try simp only [Act.put, List.setIfInBounds_toArray, List.set_cons_zero, List.set_cons_succ]
                  refine wpAnyH_done (by kernel_rfl) ?_ _
                  have HbF := Lib.hid hHeld
                  clear hHeld
                  obtain ⟨wf, hwf⟩ : ∃ x, x = v_2027 := ⟨_, rfl⟩
                  rw [← hwf] at HbF En ⊢
                  clear hwf
                  go_wp2_with fail
                  go_roundw
                  case rel => exact ⟨i + 1, by omega, by go_num, by rw [HMi.out]; exact En.out, HfW.out.trans HbF.out⟩
                  case measure => simp [intOf]; omega
              · have qC1 := C1.out

                go_simp
                refine hK.out _ _ hHeld (fun _ => ?_)
                clear hK K
                try simp only [Act.put, List.setIfInBounds_toArray, List.set_cons_zero, List.set_cons_succ]
                refine wpAnyH_take (i := 12) (oi := ⟨some 130, _, _, _, _, _⟩) (v := ?vg12_2029) rfl (by kernel_rfl) (by kernel_rfl) (by kernel_rfl) (fun _ _ _ h => h) (Or.inl ⟨by rfl, ?yg12_2029⟩) hHeld ?rg12_2029
                case yg12_2029 =>
                  intro wq hSw
                  (try dsimp only at hSw)
                  first | (go_simp; done) | (go_simp; with_reducible rfl)
                try simp only [Act.put, List.setIfInBounds_toArray, List.set_cons_zero, List.set_cons_succ]
                refine wpAnyH_take (i := 13) (oi := ⟨some 131, _, _, _, _, _⟩) (v := ?vg13_2030) rfl (by kernel_rfl) (by kernel_rfl) (by kernel_rfl) (fun _ _ _ h => h) (Or.inl ⟨by rfl, ?yg13_2030⟩) hHeld ?rg13_2030
                case yg13_2030 =>
                  intro wq hSw
                  (try dsimp only at hSw)
                  have q0 := hSw.cell_some X0.out (by show ¬ gb = g; exact hgb)
                  first | (go_simp; done) | (go_simp; with_reducible rfl)
                try simp only [Act.put, List.setIfInBounds_toArray, List.set_cons_zero, List.set_cons_succ]
                refine wpAnyH_ready (rs := [5, 17]) (by kernel_rfl) (by simp) ?_
                refine AllReadyH.cons (o := ⟨some 123, _, _, _, _, _⟩) rfl (fun K hK => ?_) (AllReadyH.cons (o := ⟨some 135, _, _, _, _, _⟩) rfl (fun K hK => ?_) (AllReadyH.nil))
                · have qC1 := C1.out
                  have qC2 := C2.out

                  go_simp
                  refine hK.out _ _ hHeld (fun _ => ?_)
                  clear hK K
                  try simp only [Act.put, List.setIfInBounds_toArray, List.set_cons_zero, List.set_cons_succ]
                  refine wpAnyH_ready (rs := [17]) (by kernel_rfl) (by simp) ?_
                  refine AllReadyH.cons (o := ⟨some 135, _, _, _, _, _⟩) rfl (fun K hK => ?_) (AllReadyH.nil)
                  have qC3 := C3.out
                  have qC4 := C4.out

                  go_simp
                  refine hK.out _ _ hHeld (fun _ => ?_)
                  clear hK K
                  try simp only [Act.put, List.setIfInBounds_toArray, List.set_cons_zero, List.set_cons_succ]
                  refine wpAnyH_ready (rs := [18]) (by kernel_rfl) (by simp) ?_
                  refine AllReadyH.cons (o := ⟨some 136, _, _, _, _, _⟩) rfl (fun K hK => ?_) (AllReadyH.nil)
                  go_simp
                  have hh := less_any (Mi i j) (some ⟨gb, ob, none⟩) k di (rowL k (Mi i)) Bi2 W di2 (rowL W fun p => Mi i (k + p)) Bj k dj (rowL k (Mi j)) Bj2 W dj2 (rowL W fun p => Mi j (k + p)) v_2001 Si1.out Si2.out Sj1.out Sj2.out (by omega) hW
                  rw [Hx.out] at hh
                  refine hh.mono ?_; clear hh; rintro e v_2031 ⟨⟨vv, rfl, Bn, mn, dn, Bn2, mn2, dn2, rfl, hn1, hn2⟩, hbN⟩
                  have hmn : mn = k := by
                    have := hn1.len
                    rw [cells_length, fld_length, rowL_length] at this
                    omega
                  have hmn2 : mn2 = W := by
                    have := hn2.len
                    rw [cells_length, fld_length, rowL_length] at this
                    omega
                  rw [hmn] at hn1
                  rw [hmn2] at hn2
                  rw [hmn, hmn2]
                  rw [rowL_fld] at hn1 hn2
                  have Hn1 := Lib.hid hn1
                  have Hn2 := Lib.hid hn2
                  have Ex := Lib.hid (Ed.out.later hbN)
                  have hfN : Fr (fun k => k = g) v_2001 v_2031 := Fr.of_below hbN
                  clear hbN hn1 hn2 hmn hmn2 mn mn2
                  go_wp2_with fail
                  have hHeld := hHeld.trans hfN
                  have hz_2032 := hfN.size
                  refine hK.out _ _ hHeld (fun _ => ?_)
                  clear hK K hfN
                  try simp only [Act.put, List.setIfInBounds_toArray, List.set_cons_zero, List.set_cons_succ]
                  refine wpAnyH_take (i := 19) (oi := ⟨some 137, _, _, _, _, _⟩) (v := ?vg19_2033) rfl (by kernel_rfl) (by kernel_rfl) (by kernel_rfl) (fun _ _ _ h => h) (Or.inl ⟨by rfl, ?yg19_2033⟩) hHeld ?rg19_2033
                  case yg19_2033 =>
                    intro wq hSw
                    (try dsimp only at hSw)
                    first | (go_simp; done) | (go_simp; with_reducible rfl)
                  try simp only [Act.put, List.setIfInBounds_toArray, List.set_cons_zero, List.set_cons_succ]
                  refine wpAnyH_ready (rs := [20]) (by kernel_rfl) (by simp) ?_
                  refine AllReadyH.cons (o := ⟨none, _, _, _, _, _⟩) rfl (fun K hK => ?_) (AllReadyH.nil)
                  obtain ⟨_, _, _, _, z0, z1, _, _⟩ := Ex.out.cell hik
                  have y0 := Ex.out.free (i * 2)
                  have y1 := Ex.out.free (i * 2 + 1)
                  go_simp
                  have hset := Ex.out.set hik (f := fun c => Mi i c ^^^ gm (Mi i j) (Mi j c)) Hn1.out Hn2.out
                  have hfN := hset.2
                  have hE := hset.1
                  obtain ⟨v_2034, hw⟩ : ∃ x, x = (v_2031.setCell ⟨g, i * 2, none⟩ (.slice Bn k dn)).setCell ⟨g, i * 2 + 1, none⟩ (.slice Bn2 W dn2) := ⟨_, rfl⟩
                  rw [← hw] at hfN hE ⊢
                  clear hw z0 z1 y0 y1 hset Ex Hn1 Hn2
                  have En := Lib.hid hE
                  clear hE
                  have hHeld := hHeld.trans hfN
                  have hz_2035 := hfN.size
                  refine hK.out _ _ hHeld (fun _ => ?_)
                  clear hK K hfN
                  try simp only [Act.put, List.setIfInBounds_toArray, List.set_cons_zero, List.set_cons_succ]
                  refine wpAnyH_done (by kernel_rfl) ?_ _
                  have HbF := Lib.hid hHeld
                  clear hHeld
                  obtain ⟨wf, hwf⟩ : ∃ x, x = v_2034 := ⟨_, rfl⟩
                  rw [← hwf] at HbF En ⊢
                  clear hwf
                  go_wp2_with fail
                  go_roundw
                  case rel => exact ⟨i + 1, by omega, by go_num, by rw [HMi.out]; exact En.out, HfW.out.trans HbF.out⟩
                  case measure => simp [intOf]; omega
                · have qC3 := C3.out
                  have qC4 := C4.out

                  go_simp
                  refine hK.out _ _ hHeld (fun _ => ?_)
                  clear hK K
                  try simp only [Act.put, List.setIfInBounds_toArray, List.set_cons_zero, List.set_cons_succ]
                  refine wpAnyH_ready (rs := [5]) (by kernel_rfl) (by simp) ?_
                  refine AllReadyH.cons (o := ⟨some 123, _, _, _, _, _⟩) rfl (fun K hK => ?_) (AllReadyH.nil)
                  have qC1 := C1.out
                  have qC2 := C2.out

                  go_simp
                  refine hK.out _ _ hHeld (fun _ => ?_)
                  clear hK K
                  try simp only [Act.put, List.setIfInBounds_toArray, List.set_cons_zero, List.set_cons_succ]
                  refine wpAnyH_ready (rs := [18]) (by kernel_rfl) (by simp) ?_
                  refine AllReadyH.cons (o := ⟨some 136, _, _, _, _, _⟩) rfl (fun K hK => ?_) (AllReadyH.nil)
                  go_simp
                  have hh := less_any (Mi i j) (some ⟨gb, ob, none⟩) k di (rowL k (Mi i)) Bi2 W di2 (rowL W fun p => Mi i (k + p)) Bj k dj (rowL k (Mi j)) Bj2 W dj2 (rowL W fun p => Mi j (k + p)) v_2001 Si1.out Si2.out Sj1.out Sj2.out (by omega) hW
                  rw [Hx.out] at hh
                  refine hh.mono ?_; clear hh; rintro e v_2036 ⟨⟨vv, rfl, Bn, mn, dn, Bn2, mn2, dn2, rfl, hn1, hn2⟩, hbN⟩
                  have hmn : mn = k := by
                    have := hn1.len
                    rw [cells_length, fld_length, rowL_length] at this
                    omega
                  have hmn2 : mn2 = W := by
                    have := hn2.len
                    rw [cells_length, fld_length, rowL_length] at this
                    omega
                  rw [hmn] at hn1
                  rw [hmn2] at hn2
                  rw [hmn, hmn2]
                  rw [rowL_fld] at hn1 hn2
                  have Hn1 := Lib.hid hn1
                  have Hn2 := Lib.hid hn2
                  have Ex := Lib.hid (Ed.out.later hbN)
                  have hfN : Fr (fun k => k = g) v_2001 v_2036 := Fr.of_below hbN
                  clear hbN hn1 hn2 hmn hmn2 mn mn2
                  go_wp2_with fail
                  have hHeld := hHeld.trans hfN
                  have hz_2037 := hfN.size
                  refine hK.out _ _ hHeld (fun _ => ?_)
                  clear hK K hfN
                  try simp only [Act.put, List.setIfInBounds_toArray, List.set_cons_zero, List.set_cons_succ]
                  refine wpAnyH_take (i := 19) (oi := ⟨some 137, _, _, _, _, _⟩) (v := ?vg19_2038) rfl (by kernel_rfl) (by kernel_rfl) (by kernel_rfl) (fun _ _ _ h => h) (Or.inl ⟨by rfl, ?yg19_2038⟩) hHeld ?rg19_2038
                  case yg19_2038 =>
                    intro wq hSw
                    (try dsimp only at hSw)
                    first | (go_simp; done) | (go_simp; with_reducible rfl)
                  try simp only [Act.put, List.setIfInBounds_toArray, List.set_cons_zero, List.set_cons_succ]
                  refine wpAnyH_ready (rs := [20]) (by kernel_rfl) (by simp) ?_
                  refine AllReadyH.cons (o := ⟨none, _, _, _, _, _⟩) rfl (fun K hK => ?_) (AllReadyH.nil)
                  obtain ⟨_, _, _, _, z0, z1, _, _⟩ := Ex.out.cell hik
                  have y0 := Ex.out.free (i * 2)
                  have y1 := Ex.out.free (i * 2 + 1)
                  go_simp
                  have hset := Ex.out.set hik (f := fun c => Mi i c ^^^ gm (Mi i j) (Mi j c)) Hn1.out Hn2.out
                  have hfN := hset.2
                  have hE := hset.1
                  obtain ⟨v_2039, hw⟩ : ∃ x, x = (v_2036.setCell ⟨g, i * 2, none⟩ (.slice Bn k dn)).setCell ⟨g, i * 2 + 1, none⟩ (.slice Bn2 W dn2) := ⟨_, rfl⟩
                  rw [← hw] at hfN hE ⊢
                  clear hw z0 z1 y0 y1 hset Ex Hn1 Hn2
                  have En := Lib.hid hE
                  clear hE
                  have hHeld := hHeld.trans hfN
                  have hz_2040 := hfN.size
                  refine hK.out _ _ hHeld (fun _ => ?_)
                  clear hK K hfN
                  try simp only [Act.put, List.setIfInBounds_toArray, List.set_cons_zero, List.set_cons_succ]
                  refine wpAnyH_done (by kernel_rfl) ?_ _
                  have HbF := Lib.hid hHeld
                  clear hHeld
                  obtain ⟨wf, hwf⟩ : ∃ x, x = v_2039 := ⟨_, rfl⟩
                  rw [← hwf] at HbF En ⊢
                  clear hwf
                  go_wp2_with fail
                  go_roundw
                  case rel => exact ⟨i + 1, by omega, by go_num, by rw [HMi.out]; exact En.out, HfW.out.trans HbF.out⟩
                  case measure => simp [intOf]; omega
              · have qC3 := C3.out
                have qC4 := C4.out

                go_simp
                refine hK.out _ _ hHeld (fun _ => ?_)
                clear hK K
                try simp only [Act.put, List.setIfInBounds_toArray, List.set_cons_zero, List.set_cons_succ]
                refine wpAnyH_ready (rs := [5, 10]) (by kernel_rfl) (by simp) ?_
                refine AllReadyH.cons (o := ⟨some 123, _, _, _, _, _⟩) rfl (fun K hK => ?_) (AllReadyH.cons (o := ⟨some 128, _, _, _, _, _⟩) rfl (fun K hK => ?_) (AllReadyH.nil))
                · have qC1 := C1.out
                  have qC2 := C2.out

                  go_simp
                  refine hK.out _ _ hHeld (fun _ => ?_)
                  clear hK K
                  try simp only [Act.put, List.setIfInBounds_toArray, List.set_cons_zero, List.set_cons_succ]
                  refine wpAnyH_ready (rs := [10]) (by kernel_rfl) (by simp) ?_
                  refine AllReadyH.cons (o := ⟨some 128, _, _, _, _, _⟩) rfl (fun K hK => ?_) (AllReadyH.nil)
                  have qC1 := C1.out

                  go_simp
                  refine hK.out _ _ hHeld (fun _ => ?_)
                  clear hK K
                  try simp only [Act.put, List.setIfInBounds_toArray, List.set_cons_zero, List.set_cons_succ]
                  refine wpAnyH_take (i := 12) (oi := ⟨some 130, _, _, _, _, _⟩) (v := ?vg12_2041) rfl (by kernel_rfl) (by kernel_rfl) (by kernel_rfl) (fun _ _ _ h => h) (Or.inl ⟨by rfl, ?yg12_2041⟩) hHeld ?rg12_2041
                  case yg12_2041 =>
                    intro wq hSw
                    (try dsimp only at hSw)
                    first | (go_simp; done) | (go_simp; with_reducible rfl)
                  try simp only [Act.put, List.setIfInBounds_toArray, List.set_cons_zero, List.set_cons_succ]
                  refine wpAnyH_take (i := 13) (oi := ⟨some 131, _, _, _, _, _⟩) (v := ?vg13_2042) rfl (by kernel_rfl) (by kernel_rfl) (by kernel_rfl) (fun _ _ _ h => h) (Or.inl ⟨by rfl, ?yg13_2042⟩) hHeld ?rg13_2042
                  case yg13_2042 =>
                    intro wq hSw
                    (try dsimp only at hSw)
                    have q0 := hSw.cell_some X0.out (by show ¬ gb = g; exact hgb)
                    first | (go_simp; done) | (go_simp; with_reducible rfl)
                  try simp only [Act.put, List.setIfInBounds_toArray, List.set_cons_zero, List.set_cons_succ]
                  refine wpAnyH_ready (rs := [18]) (by kernel_rfl) (by simp) ?_
                  refine AllReadyH.cons (o := ⟨some 136, _, _, _, _, _⟩) rfl (fun K hK => ?_) (AllReadyH.nil)
                  go_simp
                  have hh := less_any (Mi i j) (some ⟨gb, ob, none⟩) k di (rowL k (Mi i)) Bi2 W di2 (rowL W fun p => Mi i (k + p)) Bj k dj (rowL k (Mi j)) Bj2 W dj2 (rowL W fun p => Mi j (k + p)) v_2001 Si1.out Si2.out Sj1.out Sj2.out (by omega) hW
                  rw [Hx.out] at hh
                  refine hh.mono ?_; clear hh; rintro e v_2043 ⟨⟨vv, rfl, Bn, mn, dn, Bn2, mn2, dn2, rfl, hn1, hn2⟩, hbN⟩
                  have hmn : mn = k := by
                    have := hn1.len
                    rw [cells_length, fld_length, rowL_length] at this
                    omega
                  have hmn2 : mn2 = W := by
                    have := hn2.len
                    rw [cells_length, fld_length, rowL_length] at this
                    omega
                  rw [hmn] at hn1
                  rw [hmn2] at hn2
                  rw [hmn, hmn2]
                  rw [rowL_fld] at hn1 hn2
                  have Hn1 := Lib.hid hn1
                  have Hn2 := Lib.hid hn2
                  have Ex := Lib.hid (Ed.out.later hbN)
                  have hfN : Fr (fun k => k = g) v_2001 v_2043 := Fr.of_below hbN
                  clear hbN hn1 hn2 hmn hmn2 mn mn2
                  go_wp2_with fail
                  have hHeld := hHeld.trans hfN
                  have hz_2044 := hfN.size
                  refine hK.out _ _ hHeld (fun _ => ?_)
                  clear hK K hfN
                  try simp only [Act.put, List.setIfInBounds_toArray, List.set_cons_zero, List.set_cons_succ]
                  refine wpAnyH_take (i := 19) (oi := ⟨some 137, _, _, _, _, _⟩) (v := ?vg19_2045) rfl (by kernel_rfl) (by kernel_rfl) (by kernel_rfl) (fun _ _ _ h => h) (Or.inl ⟨by rfl, ?yg19_2045⟩) hHeld ?rg19_2045
                  case yg19_2045 =>
                    intro wq hSw
                    (try dsimp only at hSw)
                    first | (go_simp; done) | (go_simp; with_reducible rfl)
                  try simp only [Act.put, List.setIfInBounds_toArray, List.set_cons_zero, List.set_cons_succ]
                  refine wpAnyH_ready (rs := [20]) (by kernel_rfl) (by simp) ?_
                  refine AllReadyH.cons (o := ⟨none, _, _, _, _, _⟩) rfl (fun K hK => ?_) (AllReadyH.nil)
                  obtain ⟨_, _, _, _, z0, z1, _, _⟩ := Ex.out.cell hik
                  have y0 := Ex.out.free (i * 2)
                  have y1 := Ex.out.free (i * 2 + 1)
                  go_simp
                  have hset := Ex.out.set hik (f := fun c => Mi i c ^^^ gm (Mi i j) (Mi j c)) Hn1.out Hn2.out
                  have hfN := hset.2
                  have hE := hset.1
                  obtain ⟨v_2046, hw⟩ : ∃ x, x = (v_2043.setCell ⟨g, i * 2, none⟩ (.slice Bn k dn)).setCell ⟨g, i * 2 + 1, none⟩ (.slice Bn2 W dn2) := ⟨_, rfl⟩
                  rw [← hw] at hfN hE ⊢
                  clear hw z0 z1 y0 y1 hset Ex Hn1 Hn2
                  have En := Lib.hid hE
                  clear hE
                  have hHeld := hHeld.trans hfN
                  have hz_2047 := hfN.size
                  refine hK.out _ _ hHeld (fun _ => ?_)
                  clear hK K hfN
                  try simp only [Act.put, List.setIfInBounds_toArray, List.set_cons_zero, List.set_cons_succ]
                  refine wpAnyH_done (by kernel_rfl) ?_ _
                  have HbF := Lib.hid hHeld
                  clear hHeld
                  obtain ⟨wf, hwf⟩ : ∃ x, x = v_2046 := ⟨_, rfl⟩
                  rw [← hwf] at HbF En ⊢
                  clear hwf
                  go_wp2_with fail
                  go_roundw
                  case rel => exact ⟨i + 1, by omega, by go_num, by rw [HMi.out]; exact En.out, HfW.out.trans HbF.out⟩
                  case measure => simp [intOf]; omega
                · have qC1 := C1.out

                  go_simp
                  refine hK.out _ _ hHeld (fun _ => ?_)
                  clear hK K
                  try simp only [Act.put, List.setIfInBounds_toArray, List.set_cons_zero, List.set_cons_succ]
                  refine wpAnyH_take (i := 12) (oi := ⟨some 130, _, _, _, _, _⟩) (v := ?vg12_2048) rfl (by kernel_rfl) (by kernel_rfl) (by kernel_rfl) (fun _ _ _ h => h) (Or.inl ⟨by rfl, ?yg12_2048⟩) hHeld ?rg12_2048
                  case yg12_2048 =>
                    intro wq hSw
                    (try dsimp only at hSw)
                    first | (go_simp; done) | (go_simp; with_reducible rfl)
                  try simp only [Act.put, List.setIfInBounds_toArray, List.set_cons_zero, List.set_cons_succ]
                  refine wpAnyH_take (i := 13) (oi := ⟨some 131, _, _, _, _, _⟩) (v := ?vg13_2049) rfl (by kernel_rfl) (by kernel_rfl) (by kernel_rfl) (fun _ _ _ h => h) (Or.inl ⟨by rfl, ?yg13_2049⟩) hHeld ?rg13_2049
                  case yg13_2049 =>
                    intro wq hSw
                    (try dsimp only at hSw)
                    have q0 := hSw.cell_some X0.out (by show ¬ gb = g; exact hgb)
                    first | (go_simp; done) | (go_simp; with_reducible rfl)
                  try simp only [Act.put, List.setIfInBounds_toArray, List.set_cons_zero, List.set_cons_succ]
                  refine wpAnyH_ready (rs := [5]) (by kernel_rfl) (by simp) ?_
                  refine AllReadyH.cons (o := ⟨some 123, _, _, _, _, _⟩) rfl (fun K hK => ?_) (AllReadyH.nil)
                  have qC1 := C1.out
                  have qC2 := C2.out

                  go_simp
                  refine hK.out _ _ hHeld (fun _ => ?_)
                  clear hK K
                  try simp only [Act.put, List.setIfInBounds_toArray, List.set_cons_zero, List.set_cons_succ]
                  refine wpAnyH_ready (rs := [18]) (by kernel_rfl) (by simp) ?_
                  refine AllReadyH.cons (o := ⟨some 136, _, _, _, _, _⟩) rfl (fun K hK => ?_) (AllReadyH.nil)
                  go_simp
                  have hh := less_any (Mi i j) (some ⟨gb, ob, none⟩) k di (rowL k (Mi i)) Bi2 W di2 (rowL W fun p => Mi i (k + p)) Bj k dj (rowL k (Mi j)) Bj2 W dj2 (rowL W fun p => Mi j (k + p)) v_2001 Si1.out Si2.out Sj1.out Sj2.out (by omega) hW
                  rw [Hx.out] at hh
                  refine hh.mono ?_; clear hh; rintro e v_2050 ⟨⟨vv, rfl, Bn, mn, dn, Bn2, mn2, dn2, rfl, hn1, hn2⟩, hbN⟩
                  have hmn : mn = k := by
                    have := hn1.len
                    rw [cells_length, fld_length, rowL_length] at this
                    omega
                  have hmn2 : mn2 = W := by
                    have := hn2.len
                    rw [cells_length, fld_length, rowL_length] at this
                    omega
                  rw [hmn] at hn1
                  rw [hmn2] at hn2
                  rw [hmn, hmn2]
                  rw [rowL_fld] at hn1 hn2
                  have Hn1 := Lib.hid hn1
                  have Hn2 := Lib.hid hn2
                  have Ex := Lib.hid (Ed.out.later hbN)
                  have hfN : Fr (fun k => k = g) v_2001 v_2050 := Fr.of_below hbN
                  clear hbN hn1 hn2 hmn hmn2 mn mn2
                  go_wp2_with fail
                  have hHeld := hHeld.trans hfN
                  have hz_2051 := hfN.size
                  refine hK.out _ _ hHeld (fun _ => ?_)
                  clear hK K hfN
                  try simp only [Act.put, List.setIfInBounds_toArray, List.set_cons_zero, List.set_cons_succ]
                  refine wpAnyH_take (i := 19) (oi := ⟨some 137, _, _, _, _, _⟩) (v := ?vg19_2052) rfl (by kernel_rfl) (by kernel_rfl) (by kernel_rfl) (fun _ _ _ h => h) (Or.inl ⟨by rfl, ?yg19_2052⟩) hHeld ?rg19_2052
                  case yg19_2052 =>
                    intro wq hSw
                    (try dsimp only at hSw)
                    first | (go_simp; done) | (go_simp; with_reducible rfl)
                  try simp only [Act.put, List.setIfInBounds_toArray, List.set_cons_zero, List.set_cons_succ]
                  refine wpAnyH_ready (rs := [20]) (by kernel_rfl) (by simp) ?_
                  refine AllReadyH.cons (o := ⟨none, _, _, _, _, _⟩) rfl (fun K hK => ?_) (AllReadyH.nil)
                  obtain ⟨_, _, _, _, z0, z1, _, _⟩ := Ex.out.cell hik
                  have y0 := Ex.out.free (i * 2)
                  have y1 := Ex.out.free (i * 2 + 1)
                  go_simp
                  have hset := Ex.out.set hik (f := fun c => Mi i c ^^^ gm (Mi i j) (Mi j c)) Hn1.out Hn2.out
                  have hfN := hset.2
                  have hE := hset.1
                  obtain ⟨v_2053, hw⟩ : ∃ x, x = (v_2050.setCell ⟨g, i * 2, none⟩ (.slice Bn k dn)).setCell ⟨g, i * 2 + 1, none⟩ (.slice Bn2 W dn2) := ⟨_, rfl⟩
                  rw [← hw] at hfN hE ⊢
                  clear hw z0 z1 y0 y1 hset Ex Hn1 Hn2
                  have En := Lib.hid hE
                  clear hE
                  have hHeld := hHeld.trans hfN
                  have hz_2054 := hfN.size
                  refine hK.out _ _ hHeld (fun _ => ?_)
                  clear hK K hfN
                  try simp only [Act.put, List.setIfInBounds_toArray, List.set_cons_zero, List.set_cons_succ]
                  refine wpAnyH_done (by kernel_rfl) ?_ _
                  have HbF := Lib.hid hHeld
                  clear hHeld
                  obtain ⟨wf, hwf⟩ : ∃ x, x = v_2053 := ⟨_, rfl⟩
                  rw [← hwf] at HbF En ⊢
                  clear hwf
                  go_wp2_with fail
                  go_roundw
                  case rel => exact ⟨i + 1, by omega, by go_num, by rw [HMi.out]; exact En.out, HfW.out.trans HbF.out⟩
                  case measure => simp [intOf]; omega
            · obtain rfl : i = j := by omega
              have hF2 := F.out.frE E.out hne HfW.out
              have hEi := hE
              obtain ⟨Bj, dj, Bj2, dj2, cj1, cj2, sj1, sj2⟩ := hE.cell (show i < k by omega)
              have hrow : (rowL W fun p => fd Mq i 0 i i (k + p)) = rowL W (X i) := rowL_congr fun p hp => by
                rw [show fd Mq i 0 i i = Mq i from by rw [fd, if_neg (by omega)]]
                exact B.out.row S.out (by omega) p hp
              rw [hrow] at sj2
              have hoff : ∀ b o, 0 < W → Bj2 = some ⟨b, o, none⟩ → b ≠ go := fun b o hn e => hF2.off (by simp [outL]) sj2 hn e
              have Hrow := Lib.hid sj2
              have Hoff := Lib.hid hoff
              have F2 := Lib.hid hF2
              have Ei := Lib.hid hEi
              have Hb2 := Lib.hid (Hb.out.trans (HfW.out.below hszq (fun b hb => by have hb : b = g := hb; omega)))
              obtain ⟨v0, z0⟩ := hF2.has (show i < k by omega)
              have y0 := hF2.free i
              have hiji : (i : Int) < (k : Int) := by omega
              have hij' : i < k := by omega
              clear hE hEi hF2 sj1 sj2 hrow hoff cj1
              go_wp2_with fail
              have hf : Fr (fun k => k = go) wi (wi.setCell ⟨go, i, none⟩ (.slice Bj2 W dj2)) := Fr.setCell (S := fun k => k = go) (Fr.refl _ _) (.inr rfl) _
              have hlen : (rowL W (X i)).length = W := rowL_length _ _
              have hst := F2.out.put hf (show i < k by omega) (A := Bj2) (c := dj2) (r := rowL W (X i)) (by rw [hlen]; exact heap_setCell_same _ go i _ _ _ F2.out.row) (by rw [hlen]; exact Hrow.out.fr hf (fun b o hn e hb => Hoff.out b o hn e hb)) (by rw [hlen]; exact Hoff.out)
              rw [outL_set _ _ _ _ (show i < k by omega)] at hst
              have hEn := Ei.out.frF F2.out (by simp [outL]) hne hf
              have Hst := Lib.hid hst
              have HEn := Lib.hid hEn
              have Hbn := Lib.hid (Hb2.out.trans (hf.below Hb2.out.size (fun b hb => by have hb : b = go := hb; omega)))
              clear hst hEn hf hlen z0 y0 cj2
              go_roundw
              case rel => exact ⟨i, fd Mq i 0 i, _, by omega, by go_num, HEn.out, B.out.step (by omega), S.out.fd i 0 i (by omega), Hst.out, Hbn.out⟩
              case measure => simp [intOf]
end Go.Proofs.YtgoomiimlfdcmaaGreat

/-
  Contracts of slices.Clone over rows and of package locate's mended: rows, some of which are made anew of the others; nil, if they don't hold then. Condition: the coder is one that New made; the rows are of one length, with bytes; no more are left out than there are rows of parity.
-/
import Derived.Test.YtabcmjbcnmedhaaGreatDqe
import Derived.WalkSpells
namespace Go.Proofs.YtabcmjbcnmedhaaGreat
open Go.RowKit Go.Proofs Go.Maps
set_option linter.unusedVariables false

set_option maxRecDepth 20000 in
set_option maxHeartbeats 1600000 in
theorem rclone_any (A : Option Addr) (n c : Nat) (rs : List (List UInt8)) (w : World) (hg : Gr w A n c rs) (h0 : 0 < n) (hn : n ≤ 1048576) :
    Calls Tryz.prog 63 #[.slice A n c] w fun e w' => ∃ (g cap : Nat) (cur : Array Value), e = .returned (.slice (some ⟨g, 0, none⟩) n cap) ∧ n ≤ cap ∧ cap ≤ maxLen ∧ w.heap.size ≤ g ∧ Fil w' g cap cur rs ∧ Below w.heap.size w w' := by
  obtain ⟨vs, hs, hr⟩ := hg.ex
  obtain ⟨b, o, rfl, -⟩ := hs.at_ h0
  have hone := one_slice (rows_slice hs hg.len hr)
  obtain ⟨i0, hi, hz0, hz1, hz2⟩ := info_parts info_bs
  have hlen := hg.len
  have hq : (binOp .eql 22 (.slice (some ⟨b, o, none⟩) n c) (.slice none 0 0)).run Tryz.prog w = .ok (.bool false) w := Lib.run_eql_slice_nil w _ _ (some ⟨b, o, none⟩) n c 0 0 Tryz.underlying22
  have Hs := Lib.hid hs
  have Hr := Lib.hid hr
  have Hlen := Lib.hid hlen
  have Hone := Lib.hid hone
  have Hi := Lib.hid hi
  have Hz0 := Lib.hid hz0
  have Hz1 := Lib.hid hz1
  have Hz2 := Lib.hid hz2
  clear hg hs hr hlen hone hi hz0 hz1 hz2
  go_enter Tryz.func63, Tryz.ntmps63
  go_wp2_with (at_builtin; refine wpList_append_mine (B := w.heap.size) (e := 30) (size := 1) (n := 0) (c := 0) (xs := []) rfl (.tmp 5) (.tmp 6) 22 22 rfl i0 (.slice none 0 0) 24 Tryz.underlying22 Hi.out Hz0.out Hz1.out Hz2.out rfl (by decide) rfl (Own.full (Sl.empty _ 1 _ 0 (by decide))) ?pa n vs (.slice (some ⟨b, o, none⟩) n c) rfl ((Hs.out.alloc _).src Tryz.underlying22 (by decide) Hone.out) ?pb ?pc ?pd)
  case pa => simp
  case pb => unfold maxLen; omega
  case pc => omega
  intro A2 c2 w2 ho2 hb2 hr2
  have hb : Below w.heap.size w w2 := ((Below.refl _ _).alloc (Nat.le_refl _) _).trans hb2
  have hrow : w2.ownsRow w.heap.size 30 1 (.slice A2 n c2) n vs := by first | exact hr2 | exact hr2 h0 | simpa using hr2 h0
  obtain ⟨hl, hv⟩ := hrow
  rcases hv with ⟨_, hv⟩ | ⟨g, cap, cur, hv, hbg, hgr, hnc, hcm, hcs, htake⟩
  · exfalso; omega
  injection hv with hv1 hv2 hv3
  subst hv1; subst hv3
  have hfil : Fil w2 g c2 cur rs := by
    refine ⟨hgr, by omega, by rw [Hlen.out]; omega, fun i r hir => ?_⟩
    obtain ⟨A', c', e1, e2⟩ := Hr.out i r hir
    refine ⟨A', c', ?_, e2.below hb (Nat.le_refl _), fun b1 o1 hn1 hA => ?_⟩
    · have hin : i < n := by
        rcases Nat.lt_or_ge i n with h' | h'
        · exact h'
        · rw [List.getElem?_eq_none (by rw [Hlen.out]; exact h')] at hir
          cases hir
      have e3 : (cur.toList.take (n * 1))[i]? = some (Value.slice A' r.length c') := by rw [htake]; exact e1
      rw [List.getElem?_take, if_pos (by omega)] at e3
      simpa using e3
    · have := e2.lt (by decide) hn1 hA
      omega
  have Hfil := Lib.hid hfil
  have Hb := Lib.hid hb
  have Hnc := Lib.hid hnc
  have Hcm := Lib.hid hcm
  have Hbg := Lib.hid hbg
  clear hfil hb hb2 ho2 hr2 hl hv2 hgr hnc hcm hcs htake hbg hq
  go_wp2_with fail
  go_ret
  exact ⟨g, c2, cur, by simp, by have := Hnc.out; omega, Hcm.out, Hbg.out, Hfil.out, Hb.out⟩

theorem Fil.grn {w : World} {g cap n : Nat} {cur : Array Value} {rs : List (List UInt8)} (h : Fil w g cap cur rs) (hl : rs.length = n) (hn : n ≤ cap) (hm : cap ≤ maxLen) : Gr w (some ⟨g, 0, none⟩) n cap rs := by
  refine ⟨⟨cur.toList.take n, ⟨by rw [List.length_take, Array.length_toList, h.size]; omega, hn, hm, fun j u hu => ⟨g, 0, rfl, ?_⟩⟩, fun i r hi => ?_⟩, hl⟩
  · rw [cell_of_row _ _ _ _ _ _ h.row, Nat.zero_add]
    rw [List.getElem?_take] at hu
    split at hu
    · simpa using hu
    · cases hu
  · obtain ⟨A, c, h1, h2, _⟩ := h.rows i r hi
    have hin : i < n := by
      rcases Nat.lt_or_ge i n with h' | h'
      · exact h'
      · rw [List.getElem?_eq_none (by rw [hl]; exact h')] at hi
        cases hi
    exact ⟨A, c, by rw [List.getElem?_take, if_pos hin]; simpa using h1, h2⟩
/-- No bytes at a place. -/
theorem Fil.wipe {w : World} {g cap : Nat} {cur : Array Value} {rs : List (List UInt8)} (h : Fil w g cap cur rs) {j : Nat} (hj : j < cap) :
    Fil (w.setCell ⟨g, j, none⟩ (.slice none 0 0)) g cap (cur.setIfInBounds j (.slice none 0 0)) (rs.set j []) :=
  h.put (A := none) (c := 0) (r := []) (Fr.setCell (S := fun k => k = g) (Fr.refl _ w) (p := ⟨g, j, none⟩) (.inr rfl) _) hj (heap_setCell_same _ g j _ _ (.slice none 0 0) h.row) (Sl.nil _ 1 0 (by decide)) (fun b o h0 _ => absurd h0 (by decide))

/-- What mended answers. -/
def RetMend (k m V : Nat) (rs : List (List UInt8)) (S : List Nat) (w : World) (e : Ending) (w' : World) : Prop :=
  ((∃ b o c' ds, e = .returned (.slice (some ⟨b, o, none⟩) (k + m) c') ∧ Gr w' (some ⟨b, o, none⟩) (k + m) c' (ds ++ parL k ds m) ∧ Lev k V ds ∧ Agr k (k + m) rs ds S) ∨
    (e = .returned (.slice none 0 0) ∧ ∀ ds, Lev k V ds → ¬ Agr k (k + m) rs ds S)) ∧ Below w.heap.size w w'

set_option maxRecDepth 100000 in
set_option maxHeartbeats 3200000 in
theorem mended_any (C k m F T V b : Nat) (A : Option Addr) (n c : Nat) (rs : List (List UInt8)) (S : List Nat) (w : World) (h : Cod w C k m F T) (hg : Gr w A n c rs) (hp : Wip k m V rs S) (hV : V ≤ 1048576) (hK : Keys w b S) :
    Calls Tryz.prog 46 #[.pointer (some ⟨C, 0, none⟩), .slice A n c, .map (some b)] w (RetMend k m V rs S w) := by
  have hnk : n = k + m := by rw [← hg.len, hp.lev.len]
  have h1 := h.k1
  have h3 := h.n255
  have hcl := rclone_any A n c rs w hg (by omega) (by omega)
  obtain ⟨N, hN⟩ : ∃ N, N = k + m := ⟨_, rfl⟩
  have HN := Lib.hid hN
  rw [← hN] at hnk
  subst hnk
  have H := Lib.hid h
  have Hp := Lib.hid hp
  have HK := Lib.hid hK
  have h255 : n ≤ 255 := by omega
  clear h hg hp hK hN h1 h3
  go_enter Tryz.func46, Tryz.ntmps46
  go_wp2_with fail
  refine hcl.mono ?_; clear hcl; rintro e w1 ⟨g, cap, cur, rfl, hnc, hcm, hg1, hF, hb1⟩
  have hs1 := hb1.size
  have F1 := Lib.hid hF
  have Hb1 := Lib.hid hb1
  clear hF hb1
  go_wp2_with fail
  go_loopw [17] (fun i wr => ∃ (j : Nat) (cu : Array Value), j ≤ n ∧ i = .int .i64 (j : Int) ∧ Fil wr g cap cu (wipeL rs S j) ∧ Below w.heap.size w wr) (fun i _ => n - (intOf i).toNat)
  case atStart => exact ⟨0, cur, by omega, rfl, by rw [wipeL_zero]; exact F1.out, Hb1.out⟩
  case round =>
    obtain ⟨j, cu, hj, rfl, hF, hb⟩ := hrel
    have FF := Lib.hid hF
    have Hb := Lib.hid hb
    have hwin := hb.size
    clear hF hb
    by_cases hlt : j < n
    · have hjl : j < rs.length := by rw [Hp.out.lev.len, ← HN.out]; exact hlt
      have hkey : keyOf Tryz.prog 3 (.int .i64 (j : Int)) = some (.int .i64 (j : Int)) := keyOf_int_mk Tryz.underlying3 (wf_of (by omega))
      have hown := (HK.out.later Hb.out).own
      have hji : (j : Int) < (n : Int) := by omega
      by_cases hm : j ∈ S
      · have hhas := setL_has S j
        rw [decide_eq_true hm] at hhas
        have hnext := wipeL_in rs S j hjl hm
        have Hnext := Lib.hid hnext
        have hb0 : Below wr.heap.size wr (wr.alloc (.cells #[] 56)) := (Below.refl _ _).alloc (Nat.le_refl _) _
        obtain ⟨v0, hv0⟩ := (FF.out.later hb0).has (show j < cap by omega)
        have hfz := (FF.out.later hb0).free j
        obtain ⟨v1, hv1⟩ := FF.out.has (show j < cap by omega)
        have hfz1 := FF.out.free j
        have Hb0 := Lib.hid hb0
        clear hnext hm hb0
        go_wp2_with (at_lookup; refine wpList_lookup_own_unit _ rfl _ _ 91 rfl 3 56 keyedI Tryz.underlying91 (zeroU _) b S.length _ rfl hown _ _ rfl hkey ?_; rw [hhas])
        have hst := (FF.out.later Hb0.out).wipe (j := j) (by omega)
        rw [Hnext.out] at hst
        have Hst := Lib.hid hst
        clear hst hv0 hfz hv1 hfz1 hown hhas
        go_roundw
        case rel => exact ⟨j + 1, _, by omega, by go_num, Hst.out, (Hb.out.trans (Hb0.out.mono hwin)).setCell hg1 _⟩
        case measure => simp [intOf]; omega
      · have hhas := setL_has S j
        rw [decide_eq_false hm] at hhas
        have hnext := wipeL_out rs S j hm
        have Hnext := Lib.hid hnext
        have hb0 : Below wr.heap.size wr (wr.alloc (.cells #[] 56)) := (Below.refl _ _).alloc (Nat.le_refl _) _
        have Hb0 := Lib.hid hb0
        clear hnext hm hb0
        go_wp2_with (at_lookup; refine wpList_lookup_own_unit _ rfl _ _ 91 rfl 3 56 keyedI Tryz.underlying91 (zeroU _) b S.length _ rfl hown _ _ rfl hkey ?_; rw [hhas])
        clear hown hhas
        go_roundw
        case rel => exact ⟨j + 1, cu, by omega, by go_num, by rw [Hnext.out]; exact FF.out.later Hb0.out, Hb.out.trans (Hb0.out.mono hwin)⟩
        case measure => simp [intOf]; omega
    · obtain rfl : j = n := by omega
      have hlen : (wipeL rs S j).length = j := by rw [wipeL_length, Hp.out.lev.len, HN.out]
      have hgr := FF.out.grn hlen hnc hcm
      have hrows : ∀ r ∈ wipeL rs S j, r.length ≤ 1048576 := fun r hr => by
        obtain ⟨i, hi, rfl⟩ := List.mem_map.1 hr
        rw [List.mem_range, Hp.out.lev.len] at hi
        split
        · exact Nat.zero_le _
        · rw [Hp.out.lev.wid i hi]; exact hV
      have hright := Hp.out.right
      rw [← HN.out] at hright
      have hh := dall_ok C k m F T (some ⟨g, 0, none⟩) j cap (wipeL rs S j) wr (H.out.later Hb.out) hgr hrows (by omega)
      rw [hright] at hh
      clear hlen hgr hrows hright FF
      go_wp2_with fail
      refine hh.mono ?_; clear hh; rintro e w2 ⟨hR, hb2⟩
      rcases hR with ⟨hno, _⟩ | ⟨_, A2, c2, X, hX, rfl, hG⟩
      · exact absurd rfl hno
      have hmade : fillL (wipeL rs S j) (shard k (dataL k ((wipeL rs S j).getD ((thereL (wipeL rs S j) j).getD 0 0) []).length (solD k X (wipeL rs S j) ((thereL (wipeL rs S j) j).take k)))) (k + m) = madeL k m X rs S := by rw [madeL, HN.out]
      rw [hmade] at hG
      have HX := Lib.hid hX
      have hW2 : ∀ r ∈ madeL k m X rs S, r.length ≤ 1048576 := (Hp.out.made_lev X).rows_ok hV
      have hb3 := Hb.out.trans (hb2.mono hwin)
      have H2 := Lib.hid (H.out.later hb3)
      have HG := Lib.hid hG
      have Hb2 := Lib.hid hb3
      have hw2 := hb3.size
      clear hmade hX hb2 hb3 hG
      go_wp2_with fail
      have hh := dholds_any C k m F T A2 (k + m) c2 _ w2 H2.out HG.out hW2
      clear hW2
      obtain ⟨x, hx⟩ : ∃ x, x = holdsB k m (madeL k m X rs S) := ⟨_, rfl⟩
      rw [← hx] at hh
      have Hx := Lib.hid hx
      clear hx
      refine hh.mono ?_; clear hh; rintro e w3 ⟨rfl, hb3⟩
      have HG3 := Lib.hid (HG.out.later hb3)
      have Hb3 := Lib.hid (Hb2.out.trans (hb3.mono hw2))
      clear hb3
      have hX := HX.out
      rw [HN.out] at hX
      have HX2 := Lib.hid hX
      clear hX
      cases x
      · go_wp2_with fail
        go_ret
        refine ⟨.inr ⟨rfl, fun ds hd ha => ?_⟩, Hb3.out⟩
        have h1 := Hp.out.back HX2.out hd ha
        have h2 := hd.holds (m := m) Hp.out.k1
        rw [← h1, ← Hx.out] at h2
        cases h2
      · have hsp := holds_split (Hp.out.made_lev X) Hx.out.symm
        obtain ⟨b4, o4, rfl, -⟩ := HG3.out.at_ (by have := Hp.out.k1; omega)
        have Hsp := Lib.hid hsp
        clear hsp
        go_wp2_with fail
        go_ret
        have hG := HG3.out
        rw [Hsp.out.2] at hG
        exact ⟨.inl ⟨b4, o4, c2, _, rfl, hG, Hsp.out.1, Hp.out.made_agr X Hsp.out.2 Hsp.out.1⟩, Hb3.out⟩
end Go.Proofs.YtabcmjbcnmedhaaGreat

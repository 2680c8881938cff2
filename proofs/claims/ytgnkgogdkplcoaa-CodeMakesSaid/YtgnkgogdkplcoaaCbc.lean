/-
  Contracts of the document's Split, Join, Same of layer 5, and of the statements' own sum of rows. No condition but bounds.
-/
import Derived.Test.YtgnkgogdkplcoaaCba
import Derived.Test.YtgnkgogdkplcoaaCag
import Derived.Test.YtgnkgogdkplcoaaCah
import Derived.StillTailTactics
namespace Go.Proofs.Ytgnkgogdkplcoaa
open Go.RowKit Go.Proofs
set_option linter.unusedVariables false

/-- The first p bytes of a row that is cut, noughts behind. -/
def cutN (l : List UInt8) (W i p : Nat) : List UInt8 := rowL W fun x => if x < p then l.getD (i * W + x) 0 else 0
theorem cutN_zero (l : List UInt8) (W i : Nat) : cutN l W i 0 = List.replicate W 0 := by
  apply List.ext_getElem
  · simp [cutN, rowL]
  · intro x h1 h2
    simp [cutN, rowL]
theorem cutN_length (l : List UInt8) (W i p : Nat) : (cutN l W i p).length = W := rowL_length _ _
theorem cutN_all (l : List UInt8) (W i p : Nat) (h : W ≤ p ∨ l.length ≤ i * W + p) : cutN l W i p = cutR l W i := by
  apply rowL_congr
  intro x hx
  by_cases hxp : x < p
  · rw [if_pos hxp]
  · rw [if_neg hxp]
    have : l.length ≤ i * W + x := by omega
    simp [this]
theorem cutN_at (l : List UInt8) (W i p : Nat) (h : p < W) : (cutN l W i p)[p]? = some 0 := by rw [cutN, rowL_get _ _ _ h, if_neg (by omega)]
theorem cutN_set (l : List UInt8) (W i p : Nat) (h : p < W) : (cutN l W i p).set p (l.getD (i * W + p) 0) = cutN l W i (p + 1) := by
  apply List.ext_getElem
  · simp [cutN, rowL]
  · intro x h1 h2
    rw [List.getElem_set]
    by_cases he : p = x
    · subst he
      simp [cutN, rowL]
    · rw [if_neg he]
      have h3 : (x < p + 1) = (x < p) := by apply propext; omega
      simp only [cutN, rowL, List.getElem_map, List.getElem_range, h3]

set_option maxRecDepth 100000 in
set_option maxHeartbeats 3200000 in
theorem rsplit_any (k : Nat) (hk1 : 1 ≤ k) (hk : k ≤ 255) (A : Option Addr) (n c : Nat) (l : List UInt8) (W : Int) (hW1 : -9223372036854775808 ≤ W) (hW2 : W < 9223372036854775808) (w : World) (hs : Sl w 1 A n c (cells l)) :
    Calls Try.prog 24 #[.int .i64 (k : Int), .slice A n c, .int .i64 W] w fun e w' => Below w.heap.size w w' ∧
      (¬ (1 ≤ W ∧ W ≤ 65536) ∧ e = .returned (.tuple #[.slice none 0 0, .int .i64 2]) ∨ (1 ≤ W ∧ W ≤ 65536) ∧ (k : Int) * W < (n : Int) ∧ e = .returned (.tuple #[.slice none 0 0, .int .i64 260]) ∨
        (1 ≤ W ∧ W ≤ 65536) ∧ (n : Int) ≤ (k : Int) * W ∧ ∃ A c, e = .returned (.tuple #[.slice A k c, .int .i64 0]) ∧ Gr w' A k c (cutL l W.toNat k)) := by
  have hlim := hs.lim
  have hl := hs.len
  rw [cells_length, Nat.mul_one] at hl
  unfold maxLen at hlim
  have Hs := Lib.hid hs; clear hs
  have Hl := Lib.hid hl; clear hl
  by_cases hin : 1 ≤ W ∧ W ≤ 65536
  · obtain ⟨V, hWV⟩ : ∃ V : Nat, W = (V : Int) := ⟨W.toNat, by omega⟩
    obtain ⟨hV1, hV2⟩ := hin
    have hVn : V ≤ 65536 := by omega
    have hkV : k * V ≤ 255 * 65536 := Nat.mul_le_mul (by omega) hVn
    obtain ⟨KV, hKV⟩ : ∃ KV, KV = k * V := ⟨_, rfl⟩
    have hKVi : (k : Int) * W = (KV : Int) := by rw [hKV, hWV]; simp
    rw [← hKV] at hkV
    replace hkV : KV ≤ 16711680 := by omega
    have HKV := Lib.hid hKV; clear hKV
    have HWV := Lib.hid hWV; clear hWV
    by_cases hbig : KV < n
    · go_enter Try.func24, Try.ntmps24
      go_wp2_with fail
      go_ret2
      exact ⟨Below.refl _ _, .inr (.inl ⟨⟨hV1, hV2⟩, by rw [hKVi]; omega, rfl⟩)⟩
    · have hmk2 := make_eq W V HWV.out (by omega)
      have hbig' : ¬ ((n : Int) > (KV : Int)) := by omega
      go_enter Try.func24, Try.ntmps24
      go_wp2_with fail
      go_loopw [8, 9] (fun v i wr => ∃ (j : Nat) (A' : Option Addr) (c' : Nat), j ≤ k ∧ i = .int .i64 (j : Int) ∧ v = .slice A' j c' ∧ Gg wr w.heap.size A' j c' (cutL l V j) ∧ Below w.heap.size w wr) (fun _ i _ => k - (intOf i).toNat)
      case atStart => exact ⟨0, none, 0, by omega, rfl, rfl, Gg.nil _ _, Below.refl _ _⟩
      case round =>
        obtain ⟨wo, rfl⟩ : ∃ x, x = wr := ⟨_, rfl⟩
        obtain ⟨j, A', c', hj, rfl, rfl, hG, hb⟩ := hrel
        have HG := Lib.hid hG; clear hG
        have Hb := Lib.hid hb
        have hszr := hb.size
        clear hb
        by_cases hlt : j < k
        · obtain ⟨P, hP⟩ : ∃ P, P = j * V := ⟨_, rfl⟩
          have hPi : (j : Int) * W = (P : Int) := by rw [hP, HWV.out]; simp
          have hPn : P ≤ 16711680 := by
            have : j * V ≤ 255 * 65536 := Nat.mul_le_mul (by omega) hVn
            omega
          have HP := Lib.hid hP; clear hP
          go_wp2_with fail
          go_loopw [11] (fun p wr => ∃ q : Nat, q ≤ V ∧ p = .int .i64 (q : Int) ∧ Mine wr wo.heap.size 5 (some ⟨wo.heap.size, 0, none⟩) V (cells (cutN l V j q)) ∧ Below wo.heap.size wo wr) (fun p _ => V - (intOf p).toNat)
          case atStart => exact ⟨0, by omega, rfl, by rw [cutN_zero]; exact Mine.noughts wo V, (Below.refl _ _).alloc (Nat.le_refl _) _⟩
          case round =>
            obtain ⟨q, hq, rfl, hm, hb2⟩ := hrel
            have hszr2 := hb2.size
            have Hb2 := Lib.hid hb2; clear hb2
            by_cases hgo : q < V ∧ P + q < n
            · obtain ⟨hqV, hPq⟩ := hgo
              have hqW : (q : Int) < W := by rw [HWV.out]; omega
              obtain ⟨g, hg, hB, hc, hz⟩ := hm.at_ hqV (cutN_at l V j q hqV)
              injection hg with hg
              injection hg with hg _
              subst hg
              obtain ⟨bl, ol, rfl, hcl⟩ := (Hs.out.below (Hb.out.trans (Hb2.out.mono hszr)) (Nat.le_refl _)).at_ hPq
              have hcell := hcl (P + q) _ (cells_get l (P + q) (by rw [Hl.out]; exact hPq))
              rw [bv] at hcell
              obtain ⟨y, hy⟩ : ∃ y, y = l[P + q]'(by rw [Hl.out]; exact hPq) := ⟨_, rfl⟩
              rw [← hy] at hcell
              have hset := hm.set hqV y
              rw [show y = l.getD (j * V + q) 0 from by rw [hy, ← HP.out]; simp [show P + q < l.length from by rw [Hl.out]; exact hPq], cutN_set l V j q hqV] at hset
              rw [show l.getD (j * V + q) 0 = y from by rw [hy, ← HP.out]; simp [show P + q < l.length from by rw [Hl.out]; exact hPq]] at hset
              have Hset := Lib.hid hset; clear hset
              have Hm := Lib.hid hm; clear hm
              have Hy := Lib.hid hy; clear hy hcl
              have hPqi : ((P : Int) + (q : Int)) < (n : Int) := by omega
              go_wp2_with fail
              go_roundw
              case rel => exact ⟨q + 1, by omega, by go_num, Hset.out, Hb2.out.setCell (Nat.le_refl _) _⟩
              case measure => simp [intOf]; omega
            · have hfin : cutN l V j q = cutR l V j := cutN_all l V j q (by rw [Hl.out, ← HP.out]; omega)
              rw [hfin] at hm
              have hsl := hm.sl (c := V) (cutR_length _ _ _) (Nat.le_refl _) (by unfold maxLen; omega)
              have hoth : Oth A' (some ⟨wo.heap.size, 0, none⟩) V := fun b1 o1 o2 hn e1 e2 => by
                injection e1 with e1; injection e1 with e1 _
                have := (HG.out.own _ _ e2).2
                omega
              have Hsl := Lib.hid hsl
              have Hoth := Lib.hid hoth
              have HG3 := Lib.hid (HG.out.later Hb2.out)
              have Hb3 := Lib.hid (Hb.out.trans (Hb2.out.mono hszr))
              clear hm hsl hoth hfin
              have hwz : w.heap.size ≤ wr.heap.size := by omega
              have hj20 : j + 1 ≤ 1048576 := by omega
              have hcl := cutR_length l V j
              by_cases hqV : q < V
              · have hqW : (q : Int) < W := by rw [HWV.out]; omega
                have hPq : ¬ ((P : Int) + (q : Int) < (n : Int)) := by omega
                have hgo' := Lib.hid hgo; clear hgo
                go_wp2_with (at_builtin; refine wpList_append_g1 (B := w.heap.size) rfl (.tmp 57) (.tmp 59) rfl rfl HG3.out hwz (some ⟨wo.heap.size, 0, none⟩) V V (cutR l V j) hcl.symm Hsl.out Hoth.out rfl hj20 ?pc)
                intro A4 c4 w4 hG4 hb4 hf4
                rw [cutL_next] at hG4
                have HG4 := Lib.hid hG4; clear hG4
                have Hb4 := Lib.hid (Hb3.out.trans hb4); clear hb4 hf4
                go_wp2_with fail
                go_roundw
                case rel => exact ⟨j + 1, A4, c4, by omega, by go_num, rfl, HG4.out, Hb4.out⟩
                case measure => simp [intOf]; omega
              · have hqW : ¬ ((q : Int) < W) := by rw [HWV.out]; omega
                have hgo' := Lib.hid hgo; clear hgo
                go_wp2_with (at_builtin; refine wpList_append_g1 (B := w.heap.size) rfl (.tmp 57) (.tmp 59) rfl rfl HG3.out hwz (some ⟨wo.heap.size, 0, none⟩) V V (cutR l V j) hcl.symm Hsl.out Hoth.out rfl hj20 ?pd)
                intro A4 c4 w4 hG4 hb4 hf4
                rw [cutL_next] at hG4
                have HG4 := Lib.hid hG4; clear hG4
                have Hb4 := Lib.hid (Hb3.out.trans hb4); clear hb4 hf4
                go_wp2_with fail
                go_roundw
                case rel => exact ⟨j + 1, A4, c4, by omega, by go_num, rfl, HG4.out, Hb4.out⟩
                case measure => simp [intOf]; omega
        · obtain rfl : j = k := by omega
          go_wp2_with fail
          go_ret2
          exact ⟨Hb.out, .inr (.inr ⟨⟨hV1, hV2⟩, by rw [hKVi]; omega, A', c', rfl, by rw [HWV.out, Int.toNat_natCast]; exact HG.out.gr⟩)⟩
  · by_cases hlow : W < 1
    · have Hin := Lib.hid hin; clear hin
      go_enter Try.func24, Try.ntmps24
      go_wp2_with fail
      go_ret2
      first | exact ⟨Below.refl _ _, .inl ⟨Hin.out, rfl⟩⟩ | exact ⟨Below.refl _ _, .inl rfl⟩
    · have hhi : 65536 < W := by omega
      have Hin := Lib.hid hin; clear hin
      go_enter Try.func24, Try.ntmps24
      go_wp2_with fail
      go_ret2
      first | exact ⟨Below.refl _ _, .inl ⟨Hin.out, rfl⟩⟩ | exact ⟨Below.refl _ _, .inl rfl⟩

set_option maxRecDepth 100000 in
set_option maxHeartbeats 3200000 in
theorem rjoin5_any (k : Nat) (hk : k ≤ 255) (A : Option Addr) (n c : Nat) (rs : List (List UInt8)) (S : Int) (hS1 : -9223372036854775808 ≤ S) (hS2 : S < 9223372036854775808) (w : World) (hg : Gr w A n c rs) (hW : ∀ r ∈ rs, r.length ≤ 1048576) :
    Calls Try.prog 26 #[.int .i64 (k : Int), .slice A n c, .int .i64 S] w fun e w' => Below w.heap.size w w' ∧
      (¬ okJ rs (k : Int) S ∧ e = .returned (.tuple #[.slice none 0 0, .int .i64 2]) ∨ okJ rs (k : Int) S ∧ ∃ A' n' c', e = .returned (.tuple #[.slice A' n' c', .int .i64 0]) ∧ Sl w' 1 A' n' c' (cells (rs.flatten.take S.toNat))) := by
  have he := reven_any A n c rs (k : Int) w hg
  have hlim := hg.lim
  unfold maxLen at hlim
  by_cases hev : evenB rs (k : Int) = true
  · rw [hev] at he
    have hnk : n = k := by
      rw [evenB, Bool.and_eq_true] at hev
      have := of_decide_eq_true hev.1
      have := hg.len
      omega
    subst hnk
    have hlv : levelB rs = true := by
      rw [evenB, Bool.and_eq_true] at hev
      exact hev.2
    have hfl := flat_all hlv
    rw [hg.len] at hfl
    have hW0 : (rs.getD 0 []).length ≤ 1048576 := by
      rcases Nat.eq_zero_or_pos n with h0 | h0
      · have := hg.len
        rw [List.eq_nil_of_length_eq_zero (this.trans h0)]
        simp
      · exact hW _ (List.mem_of_getElem? (hg.get (i := 0) h0))
    obtain ⟨W, hWd⟩ : ∃ W, W = (rs.getD 0 []).length := ⟨_, rfl⟩
    rw [← hWd] at hfl hW0
    have hnW : n * W ≤ 255 * 1048576 := Nat.mul_le_mul (by omega) hW0
    obtain ⟨NW, hNW⟩ : ∃ NW, NW = n * W := ⟨_, rfl⟩
    rw [← hNW] at hnW hfl
    replace hnW : NW ≤ 267386880 := by omega
    have HNW := Lib.hid hNW; clear hNW
    have HWd := Lib.hid hWd; clear hWd
    have Hev := Lib.hid hev; clear hev
    have Hfl := Lib.hid hfl; clear hfl
    have Hlv := Lib.hid hlv; clear hlv
    have Hg := Lib.hid hg; clear hg
    go_enter Try.func26, Try.ntmps26
    go_wp2_with fail
    refine he.mono ?_; clear he; rintro e w1 ⟨rfl, hb1⟩
    have Hb1 := Lib.hid hb1
    have hsz1 := hb1.size
    clear hb1
    go_wp2_with fail
    go_loopw [8, 9] (fun v i wr => ∃ (j q : Nat) (A' : Option Addr) (c' : Nat), j ≤ n ∧ i = .int .i64 (j : Int) ∧ q = j * W ∧ q ≤ NW ∧ v = .slice A' q c' ∧ Own wr w1.heap.size 5 1 A' q c' (cells (rs.take j).flatten) ∧ Below w1.heap.size w1 wr) (fun _ i _ => n - (intOf i).toNat)
    case atStart => exact ⟨0, 0, none, 0, by omega, rfl, by simp, by omega, rfl, by simpa [cells] using (Own.full (Sl.nil w1 1 0 (by decide)) : Own w1 w1.heap.size 5 1 none 0 0 []), Below.refl _ _⟩
    case round =>
      obtain ⟨j, q, A', c', hj, rfl, hqm, hqN, rfl, hO, hb⟩ := hrel
      have HO := Lib.hid hO; clear hO
      have Hb := Lib.hid hb
      have hszr := hb.size
      have hqc := HO.out.sl.cap
      have hct := HO.out.sl.top
      unfold maxLen at hct
      have Hqm := Lib.hid hqm; clear hb hqm
      by_cases hlt : j < n
      · obtain ⟨b, o, rfl, hc⟩ := (Hg.out.later (Hb1.out.trans (Hb.out.mono hsz1))).at_ (by omega)
        obtain ⟨Ar, cr, hcr, hsr⟩ := hc j _ (Hg.out.get hlt)
        have hlr : (rs.getD j []).length = W := by rw [HWd.out]; exact levelB_at Hlv.out (by rw [Hg.out.len]; exact hlt)
        rw [hlr] at hcr hsr
        obtain ⟨r, hr⟩ : ∃ r, r = rs.getD j [] := ⟨_, rfl⟩
        rw [← hr] at hlr hsr
        have Hr := Lib.hid hr; clear hr
        have Hsr := Lib.hid hsr; clear hsr hc
        have Hlr := Lib.hid hlr; clear hlr
        have hqn : q + W ≤ NW := by
          have h1 := Hqm.out
          have h2 : (j + 1) * W ≤ n * W := Nat.mul_le_mul_right W hlt
          rw [Nat.add_mul, Nat.one_mul] at h2
          have h3 := HNW.out
          omega
        go_wp2_with (at_builtin; refine wpList_append_b (B := w1.heap.size) rfl (.tmp 20) (.tmp 24) rfl rfl HO.out hszr Ar W cr r rfl Hsr.out (by omega) ?pc)
        intro A2 c2 w2 ho2 hb2
        have hjl : j < rs.length := by rw [Hg.out.len]; exact hlt
        have hnext : (rs.take j).flatten ++ r = (rs.take (j + 1)).flatten := by
          rw [← List.take_append_getElem hjl, List.flatten_append, Hr.out]
          simp [hjl]
        rw [← cells_append, hnext] at ho2
        have Ho2 := Lib.hid ho2; clear ho2 hnext hjl
        have Hb2 := Lib.hid (Hb.out.trans hb2); clear hb2
        have Hq2 := Lib.hid (show q + W = (j + 1) * W by rw [Hqm.out, Nat.add_mul, Nat.one_mul])
        go_wp2_with fail
        go_roundw
        case rel => exact ⟨j + 1, q + W, A2, c2, by omega, by go_num, Hq2.out, hqn, rfl, Ho2.out, Hb2.out⟩
        case measure => simp [intOf]; omega
      · obtain rfl : j = n := by omega
        have hall := HO.out.sl
        rw [List.take_of_length_le (by rw [Hg.out.len]; exact Nat.le_refl _)] at hall
        have Hall := Lib.hid hall; clear hall
        have hqeq : q = NW := by rw [Hqm.out, HNW.out]
        subst hqeq
        have hbw := Hb1.out.trans (Hb.out.mono hsz1)
        have Hbw := Lib.hid hbw; clear hbw
        by_cases hneg : S < 0
        · have hno : ¬ okJ rs (j : Int) S := fun hh => by have := hh.2.1; omega
          have Hno := Lib.hid hno; clear hno
          go_wp2_with fail
          go_ret2
          exact ⟨Hbw.out, .inl ⟨Hno.out, rfl⟩⟩
        · by_cases hgt : S ≤ (q : Int)
          · have hok : okJ rs (j : Int) S := ⟨Hev.out, by omega, by rw [Hfl.out]; exact hgt⟩
            have Hok := Lib.hid hok; clear hok
            have hVq : S.toNat ≤ q := by omega
            have hpos : 0 ≤ S := by omega
            have hle' : S ≤ (c' : Int) := by omega
            have Hpiece := Lib.hid (show Sl wr 1 A' S.toNat c' (cells (rs.flatten.take S.toNat)) from by
              have := Hall.out.sub1 0 S.toNat c' (Nat.zero_le _) hVq (by omega) (by unfold maxLen; omega)
              rw [Nat.sub_zero, List.drop_zero] at this
              rcases A' with _ | ad
              · exact this
              · rw [Option.map_some, show ad.add 0 = ad from by obtain ⟨b, o, s⟩ := ad; unfold Addr.add; split <;> simp_all] at this
                exact this)
            clear hneg
            go_wp2_with fail
            go_ret2
            exact ⟨Hbw.out, .inr ⟨Hok.out, A', S.toNat, c', rfl, Hpiece.out⟩⟩
          · have hno : ¬ okJ rs (j : Int) S := fun hh => by have := hh.2.2; rw [Hfl.out] at this; omega
            have Hno := Lib.hid hno; clear hno
            go_wp2_with fail
            go_ret2
            exact ⟨Hbw.out, .inl ⟨Hno.out, rfl⟩⟩
  · have hev' : evenB rs (k : Int) = false := by simpa using hev
    rw [hev'] at he
    have Hev := Lib.hid hev'; clear hev hev'
    clear hg
    go_enter Try.func26, Try.ntmps26
    go_wp2_with fail
    refine he.mono ?_; clear he; rintro e w1 ⟨rfl, hb1⟩
    go_wp2_with fail
    go_ret2
    exact ⟨hb1, .inl ⟨fun hh => absurd hh.1 (by rw [Hev.out]; decide), rfl⟩⟩
end Go.Proofs.Ytgnkgogdkplcoaa

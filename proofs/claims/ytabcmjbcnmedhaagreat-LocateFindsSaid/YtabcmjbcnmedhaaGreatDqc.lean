/-
  Contracts of package locate's Differ, and of the document's: the numbers of the rows in which two lists are unlike. Condition: no list is longer than a million rows. (Written by gen_dqc.py.)
-/
import Derived.Test.YtabcmjbcnmedhaaGreatDqb
import Derived.BigQuiet
namespace Go.Proofs.YtabcmjbcnmedhaaGreat
open Go.RowKit Go.Proofs
set_option linter.unusedVariables false

/-- What Differ answers. -/
def RetDif (rs bs : List (List UInt8)) (w : World) (e : Ending) (w' : World) : Prop := ∃ A q c, e = .returned (.slice A q c) ∧ Sl w' 1 A q c (ncells (difL rs bs (max rs.length bs.length))) ∧ Below w.heap.size w w'
theorem unlB_t {rs bs : List (List UInt8)} {i : Nat} (h : ¬ (i < rs.length ∧ i < bs.length ∧ rs.getD i [] = bs.getD i [])) : unlB rs bs i = true := by
  cases hq : unlB rs bs i
  · exact absurd (unlB_no hq) h
  · rfl

set_option maxRecDepth 20000 in
set_option maxHeartbeats 6400000 in
theorem differ_any (A : Option Addr) (n c : Nat) (rs : List (List UInt8)) (A2 : Option Addr) (n2 c2 : Nat) (bs : List (List UInt8)) (w : World) (h : Gr w A n c rs) (h2 : Gr w A2 n2 c2 bs) (hn : n ≤ 1048576) (hn2 : n2 ≤ 1048576) :
    Calls Tryz.prog 10 #[.slice A n c, .slice A2 n2 c2] w (RetDif rs bs w) := by
  have hlen := h.len
  have hlen2 := h2.len
  unfold RetDif
  rw [hlen, hlen2]
  have H := Lib.hid h; clear h
  have H2 := Lib.hid h2; clear h2
  have Hlen := Lib.hid hlen; clear hlen
  have Hlen2 := Lib.hid hlen2; clear hlen2
  rcases Nat.lt_or_ge n n2 with hm | hm
  · rw [show max n n2 = n2 from by omega]
    have hmi : (n : Int) < (n2 : Int) := by omega
    go_enter Tryz.func10, Tryz.ntmps10
    go_wp2_with fail
    go_loopw [5, 12] (fun v i wr => ∃ (j q : Nat) (A' : Option Addr) (c' : Nat), j ≤ n2 ∧ q ≤ j ∧ i = .int .i64 (j : Int) ∧ v = .slice A' q c' ∧ Own wr w.heap.size 3 1 A' q c' (ncells (difL rs bs j)) ∧ Below w.heap.size w wr) (fun _ i _ => n2 - (intOf i).toNat)
    case atStart => exact ⟨0, 0, none, 0, by omega, by omega, rfl, rfl, (Own.full (Sl.nil w 1 0 (by decide)) : Own w w.heap.size 3 1 none 0 0 []), Below.refl _ _⟩
    case round =>
      obtain ⟨j, q, A', c', hj, hq, rfl, rfl, hO, hb⟩ := hrel
      by_cases hlt : j < n
      · by_cases hlt2 : j < n2
        · obtain ⟨b, o, rfl, hc⟩ := (H.out.later hb).at_ (by omega)
          obtain ⟨A1, c1, hc1, hs1⟩ := hc j _ (H.out.get hlt)
          obtain ⟨b2, o2, rfl, hcc⟩ := (H2.out.later hb).at_ (by omega)
          obtain ⟨A4, c4, hc3, hs3⟩ := hcc j _ (H2.out.get hlt2)
          obtain ⟨r, hr⟩ : ∃ r, r = rs.getD j [] := ⟨_, rfl⟩
          obtain ⟨p, hp⟩ : ∃ p, p = bs.getD j [] := ⟨_, rfl⟩
          rw [← hr] at hc1 hs1
          rw [← hp] at hc3 hs3
          have hE := fun u => bequal_any A1 r.length c1 r A4 p.length c4 p (wr.drewN u) (hs1.drewN u) (hs3.drewN u)
          clear hc hcc hs1 hs3
          have Hr := Lib.hid hr
          have Hp := Lib.hid hp
          clear hr hp
          have hji : (j : Int) < (n : Int) := by omega
          have hji2 : (j : Int) < (n2 : Int) := by omega
          have hz1 : decide (n ≤ j) = false := by simpa using hlt
          have hz2 : decide (n2 ≤ j) = false := by simpa using hlt2
          by_cases heq : r = p
          · have hnext := difL_next rs bs j
            rw [unlB_f (by rw [Hlen.out]; exact hlt) (by rw [Hlen2.out]; exact hlt2) (by rw [← Hr.out, ← Hp.out, heq]), if_neg (by decide)] at hnext
            have Hnext := Lib.hid hnext
            clear hnext
            rw [decide_eq_true heq] at hE
            have Heq := Lib.hid heq
            clear heq
            have HO := Lib.hid hO
            clear hO
            go_wp2_with fail
            go_quiet ((go_at_call 20; exact Calls.quiet_of_same (hE _)))
            go_wp2_with fail
            go_roundw
            case rel => exact ⟨j + 1, q, A', c', by omega, by omega, by go_num, rfl, by rw [Hnext.out]; exact HO.out.below (below_drewN (Below.refl _ _) nq), below_drewN hb nq⟩
            case measure => simp [intOf]; omega
          · have hnext := difL_next rs bs j
            rw [unlB_t (fun q => heq (by rw [Hr.out, Hp.out]; exact q.2.2)), if_pos rfl] at hnext
            have Hnext := Lib.hid hnext
            clear hnext
            rw [decide_eq_false heq] at hE
            have Heq := Lib.hid heq
            clear heq
            go_wp2_with fail
            go_quiet ((go_at_call 20; exact Calls.quiet_of_same (hE _)))
            have HO := Lib.hid (hO.below (below_drewN (Below.refl _ _) nq))
            have Hbx := Lib.hid (below_drewN hb nq)
            obtain ⟨wx, hwx⟩ : ∃ x, x = wr.drewN nq := ⟨_, rfl⟩
            rw [← hwx] at HO Hbx ⊢
            clear hO hb hwx
            have hwin : w.heap.size ≤ (wx.alloc (.cells #[.int .i64 (j : Int)] 3)).heap.size := by have := Hbx.out.size; simp; omega
            go_wp2_with (at_builtin; refine wpList_append_i (B := w.heap.size) rfl (.tmp 37) (.tmp 39) rfl rfl (HO.out.alloc _) hwin (some ⟨wx.heap.size, 0, none⟩) 1 1 [j] rfl (Sl.oneN _ _ _ _ rfl) ?pb1 ?pc1)
            case pb1 => omega
            intro A3 c3 w5 ho5 hb5 _
            have e5 : ncells (difL rs bs j) ++ ncells [j] = ncells (difL rs bs (j + 1)) := by rw [← ncells_append, Hnext.out]
            rw [e5] at ho5
            have Ho5 := Lib.hid ho5
            have Hb5 := Lib.hid ((Hbx.out.alloc Hbx.out.size _).trans hb5)
            clear e5 ho5 hb5
            go_wp2_with fail
            go_roundw
            case rel => exact ⟨j + 1, q + 1, A3, c3, by omega, by omega, by go_num, rfl, Ho5.out, Hb5.out⟩
            case measure => simp [intOf]; omega
        · exfalso; omega
      · by_cases hlt2 : j < n2
        · have hji : (n : Int) ≤ (j : Int) := by omega
          have hji2 : (j : Int) < (n2 : Int) := by omega
          have hq1 : ¬ (j : Int) < (n : Int) := by omega
          have hz1 : decide (n ≤ j) = true := by simpa using hlt
          have hnext := difL_next rs bs j
          rw [unlB_t (fun x => hlt (by rw [← Hlen.out]; exact x.1)), if_pos rfl] at hnext
          have Hnext := Lib.hid hnext
          clear hnext
          go_wp2_with fail
          go_quiet (fail)
          have HO := Lib.hid (hO.below (below_drewN (Below.refl _ _) nq))
          have Hbx := Lib.hid (below_drewN hb nq)
          obtain ⟨wx, hwx⟩ : ∃ x, x = wr.drewN nq := ⟨_, rfl⟩
          rw [← hwx] at HO Hbx ⊢
          clear hO hb hwx
          have hwin : w.heap.size ≤ (wx.alloc (.cells #[.int .i64 (j : Int)] 3)).heap.size := by have := Hbx.out.size; simp; omega
          go_wp2_with (at_builtin; refine wpList_append_i (B := w.heap.size) rfl (.tmp 37) (.tmp 39) rfl rfl (HO.out.alloc _) hwin (some ⟨wx.heap.size, 0, none⟩) 1 1 [j] rfl (Sl.oneN _ _ _ _ rfl) ?pb2 ?pc2)
          case pb2 => omega
          intro A3 c3 w5 ho5 hb5 _
          have e5 : ncells (difL rs bs j) ++ ncells [j] = ncells (difL rs bs (j + 1)) := by rw [← ncells_append, Hnext.out]
          rw [e5] at ho5
          have Ho5 := Lib.hid ho5
          have Hb5 := Lib.hid ((Hbx.out.alloc Hbx.out.size _).trans hb5)
          clear e5 ho5 hb5
          go_wp2_with fail
          go_roundw
          case rel => exact ⟨j + 1, q + 1, A3, c3, by omega, by omega, by go_num, rfl, Ho5.out, Hb5.out⟩
          case measure => simp [intOf]; omega
        · obtain rfl : j = n2 := by omega
          have HO := Lib.hid hO
          clear hO
          go_wp2_with fail
          go_ret
          exact ⟨A', q, c', rfl, HO.out.sl, hb⟩
  · rw [show max n n2 = n from by omega]
    have hmi : ¬ (n : Int) < (n2 : Int) := by omega
    go_enter Tryz.func10, Tryz.ntmps10
    go_wp2_with fail
    go_loopw [5, 12] (fun v i wr => ∃ (j q : Nat) (A' : Option Addr) (c' : Nat), j ≤ n ∧ q ≤ j ∧ i = .int .i64 (j : Int) ∧ v = .slice A' q c' ∧ Own wr w.heap.size 3 1 A' q c' (ncells (difL rs bs j)) ∧ Below w.heap.size w wr) (fun _ i _ => n - (intOf i).toNat)
    case atStart => exact ⟨0, 0, none, 0, by omega, by omega, rfl, rfl, (Own.full (Sl.nil w 1 0 (by decide)) : Own w w.heap.size 3 1 none 0 0 []), Below.refl _ _⟩
    case round =>
      obtain ⟨j, q, A', c', hj, hq, rfl, rfl, hO, hb⟩ := hrel
      by_cases hlt : j < n
      · by_cases hlt2 : j < n2
        · obtain ⟨b, o, rfl, hc⟩ := (H.out.later hb).at_ (by omega)
          obtain ⟨A1, c1, hc1, hs1⟩ := hc j _ (H.out.get hlt)
          obtain ⟨b2, o2, rfl, hcc⟩ := (H2.out.later hb).at_ (by omega)
          obtain ⟨A4, c4, hc3, hs3⟩ := hcc j _ (H2.out.get hlt2)
          obtain ⟨r, hr⟩ : ∃ r, r = rs.getD j [] := ⟨_, rfl⟩
          obtain ⟨p, hp⟩ : ∃ p, p = bs.getD j [] := ⟨_, rfl⟩
          rw [← hr] at hc1 hs1
          rw [← hp] at hc3 hs3
          have hE := fun u => bequal_any A1 r.length c1 r A4 p.length c4 p (wr.drewN u) (hs1.drewN u) (hs3.drewN u)
          clear hc hcc hs1 hs3
          have Hr := Lib.hid hr
          have Hp := Lib.hid hp
          clear hr hp
          have hji : (j : Int) < (n : Int) := by omega
          have hji2 : (j : Int) < (n2 : Int) := by omega
          have hz1 : decide (n ≤ j) = false := by simpa using hlt
          have hz2 : decide (n2 ≤ j) = false := by simpa using hlt2
          by_cases heq : r = p
          · have hnext := difL_next rs bs j
            rw [unlB_f (by rw [Hlen.out]; exact hlt) (by rw [Hlen2.out]; exact hlt2) (by rw [← Hr.out, ← Hp.out, heq]), if_neg (by decide)] at hnext
            have Hnext := Lib.hid hnext
            clear hnext
            rw [decide_eq_true heq] at hE
            have Heq := Lib.hid heq
            clear heq
            have HO := Lib.hid hO
            clear hO
            go_wp2_with fail
            go_quiet ((go_at_call 20; exact Calls.quiet_of_same (hE _)))
            go_wp2_with fail
            go_roundw
            case rel => exact ⟨j + 1, q, A', c', by omega, by omega, by go_num, rfl, by rw [Hnext.out]; exact HO.out.below (below_drewN (Below.refl _ _) nq), below_drewN hb nq⟩
            case measure => simp [intOf]; omega
          · have hnext := difL_next rs bs j
            rw [unlB_t (fun q => heq (by rw [Hr.out, Hp.out]; exact q.2.2)), if_pos rfl] at hnext
            have Hnext := Lib.hid hnext
            clear hnext
            rw [decide_eq_false heq] at hE
            have Heq := Lib.hid heq
            clear heq
            go_wp2_with fail
            go_quiet ((go_at_call 20; exact Calls.quiet_of_same (hE _)))
            have HO := Lib.hid (hO.below (below_drewN (Below.refl _ _) nq))
            have Hbx := Lib.hid (below_drewN hb nq)
            obtain ⟨wx, hwx⟩ : ∃ x, x = wr.drewN nq := ⟨_, rfl⟩
            rw [← hwx] at HO Hbx ⊢
            clear hO hb hwx
            have hwin : w.heap.size ≤ (wx.alloc (.cells #[.int .i64 (j : Int)] 3)).heap.size := by have := Hbx.out.size; simp; omega
            go_wp2_with (at_builtin; refine wpList_append_i (B := w.heap.size) rfl (.tmp 37) (.tmp 39) rfl rfl (HO.out.alloc _) hwin (some ⟨wx.heap.size, 0, none⟩) 1 1 [j] rfl (Sl.oneN _ _ _ _ rfl) ?pb3 ?pc3)
            case pb3 => omega
            intro A3 c3 w5 ho5 hb5 _
            have e5 : ncells (difL rs bs j) ++ ncells [j] = ncells (difL rs bs (j + 1)) := by rw [← ncells_append, Hnext.out]
            rw [e5] at ho5
            have Ho5 := Lib.hid ho5
            have Hb5 := Lib.hid ((Hbx.out.alloc Hbx.out.size _).trans hb5)
            clear e5 ho5 hb5
            go_wp2_with fail
            go_roundw
            case rel => exact ⟨j + 1, q + 1, A3, c3, by omega, by omega, by go_num, rfl, Ho5.out, Hb5.out⟩
            case measure => simp [intOf]; omega
        · have hji : (j : Int) < (n : Int) := by omega
          have hji2 : (n2 : Int) ≤ (j : Int) := by omega
          have hz1 : decide (n ≤ j) = false := by simpa using hlt
          have hz2 : decide (n2 ≤ j) = true := by simpa using hlt2
          have hnext := difL_next rs bs j
          rw [unlB_t (fun x => hlt2 (by rw [← Hlen2.out]; exact x.2.1)), if_pos rfl] at hnext
          have Hnext := Lib.hid hnext
          clear hnext
          go_wp2_with fail
          go_quiet (fail)
          have HO := Lib.hid (hO.below (below_drewN (Below.refl _ _) nq))
          have Hbx := Lib.hid (below_drewN hb nq)
          obtain ⟨wx, hwx⟩ : ∃ x, x = wr.drewN nq := ⟨_, rfl⟩
          rw [← hwx] at HO Hbx ⊢
          clear hO hb hwx
          have hwin : w.heap.size ≤ (wx.alloc (.cells #[.int .i64 (j : Int)] 3)).heap.size := by have := Hbx.out.size; simp; omega
          go_wp2_with (at_builtin; refine wpList_append_i (B := w.heap.size) rfl (.tmp 37) (.tmp 39) rfl rfl (HO.out.alloc _) hwin (some ⟨wx.heap.size, 0, none⟩) 1 1 [j] rfl (Sl.oneN _ _ _ _ rfl) ?pb4 ?pc4)
          case pb4 => omega
          intro A3 c3 w5 ho5 hb5 _
          have e5 : ncells (difL rs bs j) ++ ncells [j] = ncells (difL rs bs (j + 1)) := by rw [← ncells_append, Hnext.out]
          rw [e5] at ho5
          have Ho5 := Lib.hid ho5
          have Hb5 := Lib.hid ((Hbx.out.alloc Hbx.out.size _).trans hb5)
          clear e5 ho5 hb5
          go_wp2_with fail
          go_roundw
          case rel => exact ⟨j + 1, q + 1, A3, c3, by omega, by omega, by go_num, rfl, Ho5.out, Hb5.out⟩
          case measure => simp [intOf]; omega
      · by_cases hlt2 : j < n2
        · exfalso; omega
        · obtain rfl : j = n := by omega
          have HO := Lib.hid hO
          clear hO
          go_wp2_with fail
          go_ret
          exact ⟨A', q, c', rfl, HO.out.sl, hb⟩

set_option maxRecDepth 20000 in
set_option maxHeartbeats 6400000 in
theorem rdiffer_any (A : Option Addr) (n c : Nat) (rs : List (List UInt8)) (A2 : Option Addr) (n2 c2 : Nat) (bs : List (List UInt8)) (w : World) (h : Gr w A n c rs) (h2 : Gr w A2 n2 c2 bs) (hn : n ≤ 1048576) (hn2 : n2 ≤ 1048576) :
    Calls Tryz.prog 11 #[.slice A n c, .slice A2 n2 c2] w (RetDif rs bs w) := by
  have hlen := h.len
  have hlen2 := h2.len
  unfold RetDif
  rw [hlen, hlen2]
  have H := Lib.hid h; clear h
  have H2 := Lib.hid h2; clear h2
  have Hlen := Lib.hid hlen; clear hlen
  have Hlen2 := Lib.hid hlen2; clear hlen2
  rcases Nat.lt_or_ge n n2 with hm | hm
  · rw [show max n n2 = n2 from by omega]
    have hmi : (n : Int) < (n2 : Int) := by omega
    go_enter Tryz.func11, Tryz.ntmps11
    go_wp2_with fail
    go_loopw [5, 6] (fun v i wr => ∃ (j q : Nat) (A' : Option Addr) (c' : Nat), j ≤ n2 ∧ q ≤ j ∧ i = .int .i64 (j : Int) ∧ v = .slice A' q c' ∧ Own wr w.heap.size 3 1 A' q c' (ncells (difL rs bs j)) ∧ Below w.heap.size w wr) (fun _ i _ => n2 - (intOf i).toNat)
    case atStart => exact ⟨0, 0, none, 0, by omega, by omega, rfl, rfl, (Own.full (Sl.nil w 1 0 (by decide)) : Own w w.heap.size 3 1 none 0 0 []), Below.refl _ _⟩
    case round =>
      obtain ⟨j, q, A', c', hj, hq, rfl, rfl, hO, hb⟩ := hrel
      by_cases hlt : j < n
      · by_cases hlt2 : j < n2
        · obtain ⟨b, o, rfl, hc⟩ := (H.out.later hb).at_ (by omega)
          obtain ⟨A1, c1, hc1, hs1⟩ := hc j _ (H.out.get hlt)
          obtain ⟨b2, o2, rfl, hcc⟩ := (H2.out.later hb).at_ (by omega)
          obtain ⟨A4, c4, hc3, hs3⟩ := hcc j _ (H2.out.get hlt2)
          obtain ⟨r, hr⟩ : ∃ r, r = rs.getD j [] := ⟨_, rfl⟩
          obtain ⟨p, hp⟩ : ∃ p, p = bs.getD j [] := ⟨_, rfl⟩
          rw [← hr] at hc1 hs1
          rw [← hp] at hc3 hs3
          have k1 : ∀ u, (convert 30 9 (.slice A1 r.length c1)).run Tryz.prog (wr.drewN u) = .ok (.string (bstr r)) (wr.drewN u) := fun u => str_of (hs1.drewN u)
          have k3 : ∀ u, (convert 30 9 (.slice A4 p.length c4)).run Tryz.prog (wr.drewN u) = .ok (.string (bstr p)) (wr.drewN u) := fun u => str_of (hs3.drewN u)
          clear hc hcc hs1 hs3
          have Hr := Lib.hid hr
          have Hp := Lib.hid hp
          clear hr hp
          have hji : (j : Int) < (n : Int) := by omega
          have hji2 : (j : Int) < (n2 : Int) := by omega
          have hz1 : decide (n ≤ j) = false := by simpa using hlt
          have hz2 : decide (n2 ≤ j) = false := by simpa using hlt2
          by_cases heq : r = p
          · have hnext := difL_next rs bs j
            rw [unlB_f (by rw [Hlen.out]; exact hlt) (by rw [Hlen2.out]; exact hlt2) (by rw [← Hr.out, ← Hp.out, heq]), if_neg (by decide)] at hnext
            have Hnext := Lib.hid hnext
            clear hnext
            have hz : ((bstr r).toList == (bstr p).toList) = true := by rw [bstr_toList, bstr_toList]; simpa using heq
            have Heq := Lib.hid heq
            clear heq
            have HO := Lib.hid hO
            clear hO
            go_wp2_with fail
            go_quiet (fail)
            go_wp2_with fail
            go_roundw
            case rel => exact ⟨j + 1, q, A', c', by omega, by omega, by go_num, rfl, by rw [Hnext.out]; exact HO.out.below (below_drewN (Below.refl _ _) nq), below_drewN hb nq⟩
            case measure => simp [intOf]; omega
          · have hnext := difL_next rs bs j
            rw [unlB_t (fun q => heq (by rw [Hr.out, Hp.out]; exact q.2.2)), if_pos rfl] at hnext
            have Hnext := Lib.hid hnext
            clear hnext
            have hz : ((bstr r).toList == (bstr p).toList) = false := by rw [bstr_toList, bstr_toList]; simpa using heq
            have Heq := Lib.hid heq
            clear heq
            go_wp2_with fail
            go_quiet (fail)
            have HO := Lib.hid (hO.below (below_drewN (Below.refl _ _) nq))
            have Hbx := Lib.hid (below_drewN hb nq)
            obtain ⟨wx, hwx⟩ : ∃ x, x = wr.drewN nq := ⟨_, rfl⟩
            rw [← hwx] at HO Hbx ⊢
            clear hO hb hwx
            have hwin : w.heap.size ≤ (wx.alloc (.cells #[.int .i64 (j : Int)] 3)).heap.size := by have := Hbx.out.size; simp; omega
            go_wp2_with (at_builtin; refine wpList_append_i (B := w.heap.size) rfl (.tmp 42) (.tmp 44) rfl rfl (HO.out.alloc _) hwin (some ⟨wx.heap.size, 0, none⟩) 1 1 [j] rfl (Sl.oneN _ _ _ _ rfl) ?pb5 ?pc5)
            case pb5 => omega
            intro A3 c3 w5 ho5 hb5 _
            have e5 : ncells (difL rs bs j) ++ ncells [j] = ncells (difL rs bs (j + 1)) := by rw [← ncells_append, Hnext.out]
            rw [e5] at ho5
            have Ho5 := Lib.hid ho5
            have Hb5 := Lib.hid ((Hbx.out.alloc Hbx.out.size _).trans hb5)
            clear e5 ho5 hb5
            go_wp2_with fail
            go_roundw
            case rel => exact ⟨j + 1, q + 1, A3, c3, by omega, by omega, by go_num, rfl, Ho5.out, Hb5.out⟩
            case measure => simp [intOf]; omega
        · exfalso; omega
      · by_cases hlt2 : j < n2
        · have hji : (n : Int) ≤ (j : Int) := by omega
          have hji2 : (j : Int) < (n2 : Int) := by omega
          have hq1 : ¬ (j : Int) < (n : Int) := by omega
          have hz1 : decide (n ≤ j) = true := by simpa using hlt
          have hnext := difL_next rs bs j
          rw [unlB_t (fun x => hlt (by rw [← Hlen.out]; exact x.1)), if_pos rfl] at hnext
          have Hnext := Lib.hid hnext
          clear hnext
          go_wp2_with fail
          go_quiet (fail)
          have HO := Lib.hid (hO.below (below_drewN (Below.refl _ _) nq))
          have Hbx := Lib.hid (below_drewN hb nq)
          obtain ⟨wx, hwx⟩ : ∃ x, x = wr.drewN nq := ⟨_, rfl⟩
          rw [← hwx] at HO Hbx ⊢
          clear hO hb hwx
          have hwin : w.heap.size ≤ (wx.alloc (.cells #[.int .i64 (j : Int)] 3)).heap.size := by have := Hbx.out.size; simp; omega
          go_wp2_with (at_builtin; refine wpList_append_i (B := w.heap.size) rfl (.tmp 42) (.tmp 44) rfl rfl (HO.out.alloc _) hwin (some ⟨wx.heap.size, 0, none⟩) 1 1 [j] rfl (Sl.oneN _ _ _ _ rfl) ?pb6 ?pc6)
          case pb6 => omega
          intro A3 c3 w5 ho5 hb5 _
          have e5 : ncells (difL rs bs j) ++ ncells [j] = ncells (difL rs bs (j + 1)) := by rw [← ncells_append, Hnext.out]
          rw [e5] at ho5
          have Ho5 := Lib.hid ho5
          have Hb5 := Lib.hid ((Hbx.out.alloc Hbx.out.size _).trans hb5)
          clear e5 ho5 hb5
          go_wp2_with fail
          go_roundw
          case rel => exact ⟨j + 1, q + 1, A3, c3, by omega, by omega, by go_num, rfl, Ho5.out, Hb5.out⟩
          case measure => simp [intOf]; omega
        · have hji : ¬ (j : Int) < (n : Int) := by omega
          have hji2 : ¬ (j : Int) < (n2 : Int) := by omega
          obtain rfl : j = n2 := by omega
          have HO := Lib.hid hO
          clear hO
          go_wp2_with fail
          go_ret
          exact ⟨A', q, c', rfl, HO.out.sl, hb⟩
  · rw [show max n n2 = n from by omega]
    have hmi : ¬ (n : Int) < (n2 : Int) := by omega
    go_enter Tryz.func11, Tryz.ntmps11
    go_wp2_with fail
    go_loopw [5, 6] (fun v i wr => ∃ (j q : Nat) (A' : Option Addr) (c' : Nat), j ≤ n ∧ q ≤ j ∧ i = .int .i64 (j : Int) ∧ v = .slice A' q c' ∧ Own wr w.heap.size 3 1 A' q c' (ncells (difL rs bs j)) ∧ Below w.heap.size w wr) (fun _ i _ => n - (intOf i).toNat)
    case atStart => exact ⟨0, 0, none, 0, by omega, by omega, rfl, rfl, (Own.full (Sl.nil w 1 0 (by decide)) : Own w w.heap.size 3 1 none 0 0 []), Below.refl _ _⟩
    case round =>
      obtain ⟨j, q, A', c', hj, hq, rfl, rfl, hO, hb⟩ := hrel
      by_cases hlt : j < n
      · by_cases hlt2 : j < n2
        · obtain ⟨b, o, rfl, hc⟩ := (H.out.later hb).at_ (by omega)
          obtain ⟨A1, c1, hc1, hs1⟩ := hc j _ (H.out.get hlt)
          obtain ⟨b2, o2, rfl, hcc⟩ := (H2.out.later hb).at_ (by omega)
          obtain ⟨A4, c4, hc3, hs3⟩ := hcc j _ (H2.out.get hlt2)
          obtain ⟨r, hr⟩ : ∃ r, r = rs.getD j [] := ⟨_, rfl⟩
          obtain ⟨p, hp⟩ : ∃ p, p = bs.getD j [] := ⟨_, rfl⟩
          rw [← hr] at hc1 hs1
          rw [← hp] at hc3 hs3
          have k1 : ∀ u, (convert 30 9 (.slice A1 r.length c1)).run Tryz.prog (wr.drewN u) = .ok (.string (bstr r)) (wr.drewN u) := fun u => str_of (hs1.drewN u)
          have k3 : ∀ u, (convert 30 9 (.slice A4 p.length c4)).run Tryz.prog (wr.drewN u) = .ok (.string (bstr p)) (wr.drewN u) := fun u => str_of (hs3.drewN u)
          clear hc hcc hs1 hs3
          have Hr := Lib.hid hr
          have Hp := Lib.hid hp
          clear hr hp
          have hji : (j : Int) < (n : Int) := by omega
          have hji2 : (j : Int) < (n2 : Int) := by omega
          have hz1 : decide (n ≤ j) = false := by simpa using hlt
          have hz2 : decide (n2 ≤ j) = false := by simpa using hlt2
          by_cases heq : r = p
          · have hnext := difL_next rs bs j
            rw [unlB_f (by rw [Hlen.out]; exact hlt) (by rw [Hlen2.out]; exact hlt2) (by rw [← Hr.out, ← Hp.out, heq]), if_neg (by decide)] at hnext
            have Hnext := Lib.hid hnext
            clear hnext
            have hz : ((bstr r).toList == (bstr p).toList) = true := by rw [bstr_toList, bstr_toList]; simpa using heq
            have Heq := Lib.hid heq
            clear heq
            have HO := Lib.hid hO
            clear hO
            go_wp2_with fail
            go_quiet (fail)
            go_wp2_with fail
            go_roundw
            case rel => exact ⟨j + 1, q, A', c', by omega, by omega, by go_num, rfl, by rw [Hnext.out]; exact HO.out.below (below_drewN (Below.refl _ _) nq), below_drewN hb nq⟩
            case measure => simp [intOf]; omega
          · have hnext := difL_next rs bs j
            rw [unlB_t (fun q => heq (by rw [Hr.out, Hp.out]; exact q.2.2)), if_pos rfl] at hnext
            have Hnext := Lib.hid hnext
            clear hnext
            have hz : ((bstr r).toList == (bstr p).toList) = false := by rw [bstr_toList, bstr_toList]; simpa using heq
            have Heq := Lib.hid heq
            clear heq
            go_wp2_with fail
            go_quiet (fail)
            have HO := Lib.hid (hO.below (below_drewN (Below.refl _ _) nq))
            have Hbx := Lib.hid (below_drewN hb nq)
            obtain ⟨wx, hwx⟩ : ∃ x, x = wr.drewN nq := ⟨_, rfl⟩
            rw [← hwx] at HO Hbx ⊢
            clear hO hb hwx
            have hwin : w.heap.size ≤ (wx.alloc (.cells #[.int .i64 (j : Int)] 3)).heap.size := by have := Hbx.out.size; simp; omega
            go_wp2_with (at_builtin; refine wpList_append_i (B := w.heap.size) rfl (.tmp 42) (.tmp 44) rfl rfl (HO.out.alloc _) hwin (some ⟨wx.heap.size, 0, none⟩) 1 1 [j] rfl (Sl.oneN _ _ _ _ rfl) ?pb7 ?pc7)
            case pb7 => omega
            intro A3 c3 w5 ho5 hb5 _
            have e5 : ncells (difL rs bs j) ++ ncells [j] = ncells (difL rs bs (j + 1)) := by rw [← ncells_append, Hnext.out]
            rw [e5] at ho5
            have Ho5 := Lib.hid ho5
            have Hb5 := Lib.hid ((Hbx.out.alloc Hbx.out.size _).trans hb5)
            clear e5 ho5 hb5
            go_wp2_with fail
            go_roundw
            case rel => exact ⟨j + 1, q + 1, A3, c3, by omega, by omega, by go_num, rfl, Ho5.out, Hb5.out⟩
            case measure => simp [intOf]; omega
        · have hji : (j : Int) < (n : Int) := by omega
          have hji2 : (n2 : Int) ≤ (j : Int) := by omega
          have hz1 : decide (n ≤ j) = false := by simpa using hlt
          have hz2 : decide (n2 ≤ j) = true := by simpa using hlt2
          have hnext := difL_next rs bs j
          rw [unlB_t (fun x => hlt2 (by rw [← Hlen2.out]; exact x.2.1)), if_pos rfl] at hnext
          have Hnext := Lib.hid hnext
          clear hnext
          go_wp2_with fail
          go_quiet (fail)
          have HO := Lib.hid (hO.below (below_drewN (Below.refl _ _) nq))
          have Hbx := Lib.hid (below_drewN hb nq)
          obtain ⟨wx, hwx⟩ : ∃ x, x = wr.drewN nq := ⟨_, rfl⟩
          rw [← hwx] at HO Hbx ⊢
          clear hO hb hwx
          have hwin : w.heap.size ≤ (wx.alloc (.cells #[.int .i64 (j : Int)] 3)).heap.size := by have := Hbx.out.size; simp; omega
          go_wp2_with (at_builtin; refine wpList_append_i (B := w.heap.size) rfl (.tmp 42) (.tmp 44) rfl rfl (HO.out.alloc _) hwin (some ⟨wx.heap.size, 0, none⟩) 1 1 [j] rfl (Sl.oneN _ _ _ _ rfl) ?pb8 ?pc8)
          case pb8 => omega
          intro A3 c3 w5 ho5 hb5 _
          have e5 : ncells (difL rs bs j) ++ ncells [j] = ncells (difL rs bs (j + 1)) := by rw [← ncells_append, Hnext.out]
          rw [e5] at ho5
          have Ho5 := Lib.hid ho5
          have Hb5 := Lib.hid ((Hbx.out.alloc Hbx.out.size _).trans hb5)
          clear e5 ho5 hb5
          go_wp2_with fail
          go_roundw
          case rel => exact ⟨j + 1, q + 1, A3, c3, by omega, by omega, by go_num, rfl, Ho5.out, Hb5.out⟩
          case measure => simp [intOf]; omega
      · by_cases hlt2 : j < n2
        · exfalso; omega
        · have hji : ¬ (j : Int) < (n : Int) := by omega
          have hji2 : ¬ (j : Int) < (n2 : Int) := by omega
          obtain rfl : j = n := by omega
          have HO := Lib.hid hO
          clear hO
          go_wp2_with fail
          go_ret
          exact ⟨A', q, c', rfl, HO.out.sl, hb⟩
end Go.Proofs.YtabcmjbcnmedhaaGreat

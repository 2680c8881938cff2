/-
  Contracts of package decode's there, level, has, made. No condition but bounds.
-/
import Derived.Test.YtgoomiimlfdcmaaGreatDkf
import Derived.Test.YtgoomiimlfdcmaaGreatCab
import Derived.BigQuiet
namespace Go.Proofs.YtgoomiimlfdcmaaGreat
open Go.RowKit Go.Proofs
set_option linter.unusedVariables false

set_option maxRecDepth 20000 in
set_option maxHeartbeats 1600000 in
theorem dthere_any (A : Option Addr) (n c : Nat) (rs : List (List UInt8)) (w : World) (h : Gr w A n c rs) (hn : n ≤ 1048576) :
    Calls Tryz.prog 49 #[.slice A n c] w fun e w' => (∃ A' q c', e = .returned (.slice A' q c') ∧ Sl w' 1 A' q c' (ncells (thereL rs n))) ∧ Below w.heap.size w w' := by
  have H := Lib.hid h; clear h
  go_enter Tryz.func49, Tryz.ntmps49
  go_wp2_with fail
  go_loopw [3, 8] (fun v i wr => ∃ (j q : Nat) (A' : Option Addr) (c' : Nat), j ≤ n ∧ q ≤ j ∧ i = .int .i64 (j : Int) ∧ v = .slice A' q c' ∧ Own wr w.heap.size 3 1 A' q c' (ncells (thereL rs j)) ∧ Below w.heap.size w wr) (fun _ i _ => n - (intOf i).toNat)
  case atStart => exact ⟨0, 0, none, 0, by omega, by omega, rfl, rfl, (Own.full (Sl.nil w 1 0 (by decide)) : Own w w.heap.size 3 1 none 0 0 []), Below.refl _ _⟩
  case round =>
    obtain ⟨j, q, A', c', hj, hq, rfl, rfl, hO, hb⟩ := hrel
    have HO := Lib.hid hO; clear hO
    have Hb := Lib.hid hb
    have hszr := hb.size
    clear hb
    by_cases hlt : j < n
    · obtain ⟨b, o, rfl, hc⟩ := (H.out.later Hb.out).at_ (by omega)
      obtain ⟨A1, c1, hc1, hs1⟩ := hc j _ (H.out.get hlt)
      have hnext := thereL_next rs j
      obtain ⟨L1, hL1⟩ : ∃ L, L = (rs.getD j []).length := ⟨_, rfl⟩
      rw [← hL1] at hc1 hs1 hnext
      have hm1 := hs1.lim
      unfold maxLen at hm1
      clear hc hs1 hL1
      by_cases hpos : 0 < L1
      · rw [if_pos hpos] at hnext
        have Hnext := Lib.hid hnext; clear hnext
        have hpi : (0 : Int) < (L1 : Int) := by omega
        have hwin : w.heap.size ≤ (wr.alloc (.cells #[.int .i64 (j : Int)] 3)).heap.size := by simp; omega
        go_wp2_with (at_builtin; refine wpList_append_i (B := w.heap.size) rfl (.tmp 16) (.tmp 18) rfl rfl (HO.out.alloc _) hwin (some ⟨wr.heap.size, 0, none⟩) 1 1 [j] rfl (Sl.oneN _ _ _ _ rfl) ?pb ?pc)
        case pb => omega
        intro A2 c2 w2 ho2 hb2 _
        rw [← ncells_append, ← Hnext.out] at ho2
        have Ho2 := Lib.hid ho2; clear ho2
        have Hb2 := Lib.hid ((Hb.out.alloc hszr _).trans hb2); clear hb2
        go_wp2_with fail
        go_roundw
        case rel => exact ⟨j + 1, q + 1, A2, c2, by omega, by omega, by go_num, rfl, Ho2.out, Hb2.out⟩
        case measure => simp [intOf]; omega
      · rw [if_neg hpos] at hnext
        have Hnext := Lib.hid hnext; clear hnext
        have hpi : ¬ ((0 : Int) < (L1 : Int)) := by omega
        go_wp2_with fail
        go_roundw
        case rel => exact ⟨j + 1, q, A', c', by omega, by omega, by go_num, rfl, by rw [Hnext.out]; exact HO.out, Hb.out⟩
        case measure => simp [intOf]; omega
    · obtain rfl : j = n := by omega
      go_wp2_with fail
      go_ret
      exact ⟨⟨A', q, c', rfl, HO.out.sl⟩, Hb.out⟩

/-- Is the row of this number of another length than the first that is there? -/
def offB (rs : List (List UInt8)) (t : List Nat) (x : Nat) : Bool := decide ((rs.getD x []).length ≠ (rs.getD (t.getD 0 0) []).length)

set_option maxRecDepth 20000 in
set_option maxHeartbeats 1600000 in
theorem dlevel1_any (b1 b2 : Nat) (A : Option Addr) (n c : Nat) (rs : List (List UInt8)) (B : Option Addr) (q d : Nat) (t : List Nat) (x : Nat) (w : World) (hg : Gr w A n c rs) (hs : Sl w 1 B q d (ncells t)) (k1 : w.cell? ⟨b1, 0, none⟩ = some (.slice A n c)) (k2 : w.cell? ⟨b2, 0, none⟩ = some (.slice B q d))
    (hx : x < n) (hq : 0 < q) (ht0 : t.getD 0 0 < n) :
    Calls Tryz.prog 73 #[.int .i64 (x : Int), .pointer (some ⟨b1, 0, none⟩), .pointer (some ⟨b2, 0, none⟩)] w fun e w' => e = .returned (.bool (offB rs t x)) ∧ ∃ k, w' = w.drewN k := by
  have htl : t.length = q := by
    have := hs.len
    rw [ncells_length] at this
    omega
  obtain ⟨b, o, rfl, hc⟩ := hg.at_ (by omega)
  obtain ⟨A1, c1, hc1, hs1⟩ := hc _ _ (hg.get hx)
  obtain ⟨A0, c0, hc0, hs0⟩ := hc _ _ (hg.get ht0)
  obtain ⟨gb, go, rfl, hcn⟩ := hs.at_ hq
  have n0 := hcn 0 _ (ncells_get t 0 (by omega))
  rw [show t[0]'(by omega) = t.getD 0 0 from by simp [show 0 < t.length by omega], Nat.add_zero] at n0
  obtain ⟨L1, hL1⟩ : ∃ L, L = (rs.getD x []).length := ⟨_, rfl⟩
  obtain ⟨L0, hL0⟩ : ∃ L, L = (rs.getD (t.getD 0 0) []).length := ⟨_, rfl⟩
  have hoff : offB rs t x = decide (L1 ≠ L0) := by rw [offB, hL1, hL0]
  rw [← hL1] at hc1 hs1
  rw [← hL0] at hc0 hs0
  rw [hoff]
  obtain ⟨x0, hx0⟩ : ∃ x, x = t.getD 0 0 := ⟨_, rfl⟩
  rw [← hx0] at hc0 n0 ht0
  have hm1 := hs1.lim
  have hm0 := hs0.lim
  unfold maxLen at hm1 hm0
  have hlim := hg.lim
  have hlq := hs.lim
  unfold maxLen at hlim hlq
  have hq0 : (0 : Int) < (q : Int) := by omega
  have hx1i : (x : Int) < (n : Int) := by omega
  have hx0i : (x0 : Int) < (n : Int) := by omega
  clear hc hs1 hs0 hcn hx0 hL1 hL0 hoff hg hs htl
  by_cases heq : L1 = L0
  · have hzz : (((L1 : Int) != (L0 : Int))) = false := by simp [heq]
    have Heq := Lib.hid heq; clear heq
    go_enter Tryz.func73, Tryz.ntmps73
    go_wp2_with fail
    go_quiet (fail)
    go_wp2_with fail
    go_ret
    exact ⟨by rw [decide_eq_false (by simp [Heq.out])]; rfl, nq, rfl⟩
  · have hzz : (((L1 : Int) != (L0 : Int))) = true := by simp; omega
    have Heq := Lib.hid heq; clear heq
    go_enter Tryz.func73, Tryz.ntmps73
    go_wp2_with fail
    go_quiet (fail)
    go_wp2_with fail
    go_ret
    exact ⟨by rw [decide_eq_true Heq.out]; rfl, nq, rfl⟩

set_option maxRecDepth 20000 in
set_option maxHeartbeats 800000 in
theorem dindex_any (b1 b2 : Nat) (A : Option Addr) (n c : Nat) (rs : List (List UInt8)) (B : Option Addr) (q d : Nat) (t : List Nat) (w : World) (hg : Gr w A n c rs) (hs : Sl w 1 B q d (ncells t)) (k1 : w.cell? ⟨b1, 0, none⟩ = some (.slice A n c)) (k2 : w.cell? ⟨b2, 0, none⟩ = some (.slice B q d))
    (ht : ∀ a, a < q → t.getD a 0 < n) :
    Calls Tryz.prog 95 #[.slice B q d, .func (.func 73) #[] #[.pointer (some ⟨b1, 0, none⟩), .pointer (some ⟨b2, 0, none⟩)]] w
      fun e w' => Below w.heap.size w w' ∧ ((e = .returned (.int .i64 (-1)) ∧ ∀ a, a < q → offB rs t (t.getD a 0) = false) ∨ ∃ d : Nat, e = .returned (.int .i64 (d : Int)) ∧ d < q ∧ offB rs t (t.getD d 0) = true) := by
  have hn := hs.lim
  unfold maxLen at hn
  have htl : t.length = q := by
    have := hs.len
    rw [ncells_length] at this
    omega
  have hk1 := World.block_lt_of_cell? w _ k1
  have hk2 := World.block_lt_of_cell? w _ k2
  have Hg := Lib.hid hg; clear hg
  have Hs := Lib.hid hs; clear hs
  have K1 := Lib.hid k1; clear k1
  have K2 := Lib.hid k2; clear k2
  have Hk1 := Lib.hid hk1; clear hk1
  have Hk2 := Lib.hid hk2; clear hk2
  have Ht := Lib.hid ht; clear ht
  have Htl := Lib.hid htl; clear htl
  go_enter Tryz.func95, Tryz.ntmps95
  go_wp2_with fail
  go_loopw [8] (fun i wr => ∃ k : Nat, k ≤ q ∧ i = .int .i64 (k : Int) ∧ Below w.heap.size w wr ∧ ∀ j, j < k → offB rs t (t.getD j 0) = false) (fun i _ => q - (intOf i).toNat)
  case atStart => exact ⟨0, by omega, rfl, Below.refl _ _, fun j hj => absurd hj (by omega)⟩
  case round =>
    obtain ⟨k, hk, rfl, hb, hz⟩ := hrel
    have Hz := Lib.hid hz; clear hz
    have Hb := Lib.hid hb; clear hb
    by_cases hlt : k < q
    · have hkl : k < t.length := by rw [Htl.out]; exact hlt
      have hs' := Hs.out.below Hb.out (Nat.le_refl _)
      have hh := dlevel1_any b1 b2 A n c rs B q d t (t.getD k 0) wr (Hg.out.later Hb.out) hs' ((Hb.out.cell Hk1.out).trans K1.out) ((Hb.out.cell Hk2.out).trans K2.out) (Ht.out k hlt) (by omega) (Ht.out 0 (by omega))
      obtain ⟨x, hx⟩ : ∃ x, x = offB rs t (t.getD k 0) := ⟨_, rfl⟩
      rw [← hx] at hh
      obtain ⟨b1', o1, rfl, hc⟩ := hs'.at_ hlt
      have hcell := hc k _ (ncells_get t k hkl)
      rw [show t[k] = t.getD k 0 from by simp [hkl]] at hcell
      clear hc hs'
      obtain ⟨z, hzz⟩ : ∃ z, z = t.getD k 0 := ⟨_, rfl⟩
      rw [← hzz] at hcell hh
      have Hzz := Lib.hid hzz; clear hzz
      have Hx := Lib.hid hx; clear hx
      cases x
      · go_wp2_with fail
        refine hh.mono ?_; clear hh; rintro e w' ⟨rfl, kd, hw'⟩
        have Hb' := Lib.hid (show Below w.heap.size w w' from by rw [hw']; exact below_drewN Hb.out kd)
        clear hw'
        go_wp2_with fail
        go_roundw
        case rel => exact ⟨k + 1, by omega, by go_num, Hb'.out, fun j hjk => by
          by_cases he : j = k
          · subst he; rw [← Hx.out]
          · exact Hz.out j (by omega)⟩
        case measure => simp [intOf]; omega
      · go_wp2_with fail
        refine hh.mono ?_; clear hh; rintro e w' ⟨rfl, kd, hw'⟩
        have Hb' := Lib.hid (show Below w.heap.size w w' from by rw [hw']; exact below_drewN Hb.out kd)
        clear hw'
        go_wp2_with fail
        go_ret
        exact ⟨Hb'.out, .inr ⟨k, rfl, hlt, by rw [← Hx.out]⟩⟩
    · obtain rfl : k = q := by omega
      go_wp2_with fail
      go_ret
      exact ⟨Hb.out, .inl ⟨rfl, Hz.out⟩⟩

set_option maxRecDepth 20000 in
theorem dcontains_any (b1 b2 : Nat) (A : Option Addr) (n c : Nat) (rs : List (List UInt8)) (B : Option Addr) (q d : Nat) (t : List Nat) (w : World) (hg : Gr w A n c rs) (hs : Sl w 1 B q d (ncells t)) (k1 : w.cell? ⟨b1, 0, none⟩ = some (.slice A n c)) (k2 : w.cell? ⟨b2, 0, none⟩ = some (.slice B q d))
    (ht : ∀ a, a < q → t.getD a 0 < n) :
    Calls Tryz.prog 72 #[.slice B q d, .func (.func 73) #[] #[.pointer (some ⟨b1, 0, none⟩), .pointer (some ⟨b2, 0, none⟩)]] w
      fun e w' => Below w.heap.size w w' ∧ ((e = .returned (.bool false) ∧ ∀ a, a < q → offB rs t (t.getD a 0) = false) ∨ (e = .returned (.bool true) ∧ ∃ a, a < q ∧ offB rs t (t.getD a 0) = true)) := by
  have hh := dindex_any b1 b2 A n c rs B q d t w hg hs k1 k2 ht
  clear hg hs k1 k2 ht
  go_enter Tryz.func72, Tryz.ntmps72
  go_wp2_with fail
  refine hh.mono ?_; clear hh; rintro e w' ⟨hb, ⟨rfl, ha⟩ | ⟨d, rfl, hd, ha⟩⟩
  · have Ha := Lib.hid ha; clear ha
    go_wp2_with fail
    go_ret
    exact ⟨hb, .inl ⟨rfl, Ha.out⟩⟩
  · have Ha := Lib.hid ha; clear ha
    go_wp2_with fail
    go_ret
    exact ⟨hb, .inr ⟨rfl, d, hd, Ha.out⟩⟩

set_option maxRecDepth 20000 in
theorem dlevel_any (A : Option Addr) (n c : Nat) (rs : List (List UInt8)) (B : Option Addr) (q d : Nat) (w : World) (hg : Gr w A n c rs) (hs : Sl w 1 B q d (ncells (thereL rs n))) :
    Calls Tryz.prog 50 #[.slice A n c, .slice B q d] w fun e w' => e = .returned (.bool (levelT rs)) ∧ Below w.heap.size w w' := by
  have hlen := hg.len
  have htl : (thereL rs n).length = q := by
    have := hs.len
    rw [ncells_length] at this
    omega
  have hb0 : Below w.heap.size w ((w.alloc (.cells #[.slice A n c] 22)).alloc (.cells #[.slice B q d] 38)) := ((Below.refl _ _).alloc (Nat.le_refl _) _).alloc (by simp) _
  have hx1 := alloc2_old w (.cells #[.slice A n c] 22) (.cells #[.slice B q d] 38)
  have hx2 := alloc2_new w (.cells #[.slice A n c] 22) (.cells #[.slice B q d] 38)
  have hh := dcontains_any w.heap.size (w.heap.size + 1) A n c rs B q d (thereL rs n) _ (hg.later hb0) (hs.below hb0 (Nat.le_refl _)) (cell_of_one hx1) (cell_of_one hx2) (fun a ha => thereL_lt (by omega))
  have c2 := cell_of_one hx2
  obtain ⟨t, ht⟩ : ∃ t, t = thereL rs n := ⟨_, rfl⟩
  rw [← ht] at hh htl
  have Ht := Lib.hid ht; clear ht
  have Hlen := Lib.hid hlen; clear hlen
  have Htl := Lib.hid htl; clear htl
  have Hb0 := Lib.hid hb0; clear hb0 hx1 hx2 hg hs
  go_enter Tryz.func50, Tryz.ntmps50
  go_wp2_with fail
  refine hh.mono ?_; clear hh; rintro e w' ⟨hb, ⟨rfl, ha⟩ | ⟨rfl, a, haq, ha⟩⟩
  · have hl : levelT rs = true := decide_eq_true fun a h => by
      rw [Hlen.out, ← Ht.out] at h ⊢
      have := ha a (by rw [← Htl.out]; exact h)
      rw [offB, decide_eq_false_iff_not, Decidable.not_not] at this
      exact this
    have Hl := Lib.hid hl
    clear ha hl
    go_wp2_with fail
    go_ret
    exact ⟨by rw [Hl.out]; rfl, Hb0.out.trans (hb.mono Hb0.out.size)⟩
  · have hl : levelT rs = false := decide_eq_false fun h => by
      have h1 := h a (by rw [Hlen.out, ← Ht.out, Htl.out]; exact haq)
      rw [Hlen.out, ← Ht.out] at h1
      rw [offB] at ha
      exact (of_decide_eq_true ha) h1
    have Hl := Lib.hid hl
    clear ha hl haq
    go_wp2_with fail
    go_ret
    exact ⟨by rw [Hl.out]; rfl, Hb0.out.trans (hb.mono Hb0.out.size)⟩

set_option maxRecDepth 20000 in
theorem dmade_any (C k m F T : Nat) (w : World) (h : Cod w C k m F T) :
    Calls Tryz.prog 35 #[.pointer (some ⟨C, 0, none⟩)] w fun e w' => e = .returned (.bool true) ∧ w' = w := by
  go_enter Tryz.func35, Tryz.ntmps35
  go_wp2_with fail
  refine (cf_any C k m F T _ h).mono ?_; rintro e w1 ⟨rfl, rfl⟩
  go_wp2_with fail
  go_ret
  exact ⟨rfl, rfl⟩
set_option maxRecDepth 20000 in
theorem cfnil_any (w : World) :
    Calls Tryz.prog 57 #[.pointer none] w fun e w' => e = .returned (.pointer none) ∧ w' = w := by
  go_enter Tryz.func57, Tryz.ntmps57
  go_wp2_with fail
  go_ret
  exact ⟨rfl, rfl⟩
set_option maxRecDepth 20000 in
theorem dmadenil_any (w : World) :
    Calls Tryz.prog 35 #[.pointer none] w fun e w' => e = .returned (.bool false) ∧ w' = w := by
  go_enter Tryz.func35, Tryz.ntmps35
  go_wp2_with fail
  refine (cfnil_any _).mono ?_; rintro e w1 ⟨rfl, rfl⟩
  go_wp2_with fail
  go_ret
  exact ⟨rfl, rfl⟩

set_option maxRecDepth 20000 in
theorem dhas_any (C k m F T : Nat) (i : Int) (w : World) (h : Cod w C k m F T) :
    Calls Tryz.prog 37 #[.pointer (some ⟨C, 0, none⟩), .int .i64 i] w fun e w' => e = .returned (.bool (withinB i ((k + m : Nat) : Int))) ∧ Below w.heap.size w w' := by
  by_cases h1 : 0 ≤ i
  · by_cases h2 : i < ((k + m : Nat) : Int)
    · rw [withinB_t ⟨h1, h2⟩]
      go_enter Tryz.func37, Tryz.ntmps37
      go_wp2_with fail
      refine (cn_any C k m F T _ h).mono ?_; rintro e w1 ⟨rfl, hb⟩
      go_wp2_with fail
      go_ret
      exact ⟨congrArg (fun b => Ending.returned (.bool b)) (show decide (i < (k : Int) + (m : Int)) = true by simp; omega), hb⟩
    · rw [withinB_f (by omega)]
      go_enter Tryz.func37, Tryz.ntmps37
      go_wp2_with fail
      refine (cn_any C k m F T _ h).mono ?_; rintro e w1 ⟨rfl, hb⟩
      go_wp2_with fail
      go_ret
      exact ⟨congrArg (fun b => Ending.returned (.bool b)) (show decide (i < (k : Int) + (m : Int)) = false by simp; omega), hb⟩
  · rw [withinB_f (by omega)]
    go_enter Tryz.func37, Tryz.ntmps37
    go_wp2_with fail
    go_ret
    exact ⟨rfl, Below.refl _ _⟩
end Go.Proofs.YtgoomiimlfdcmaaGreat

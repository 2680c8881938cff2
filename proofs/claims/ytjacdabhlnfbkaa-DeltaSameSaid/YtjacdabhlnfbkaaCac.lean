/-
  Contracts of package field's Fold at a field whose tables are made, and of package code's level, takes, reckon. No condition but bounds.
-/
import Derived.Test.YtjacdabhlnfbkaaCab
namespace Go.Proofs.Ytjacdabhlnfbkaa
open Go.RowKit
set_option linter.unusedVariables false

set_option maxRecDepth 20000 in
set_option maxHeartbeats 800000 in
theorem fold1_any (F T : Nat) (c : UInt8) (A : Option Addr) (m cq : Nat) (r : List UInt8) (A2 : Option Addr) (n cp : Nat) (l : List UInt8) (w : World) (h : Fld1 w F T) (hr : Sl w 1 A m cq (cells r)) (hl : Sl w 1 A2 n cp (cells l)) (hn30 : n ≤ 1073741824) :
    Calls Try.prog 35 #[.pointer (some ⟨F, 0, none⟩), .int .u8 (c.toNat : Int), .slice A m cq, .slice A2 n cp] w (RetMine w.heap.size w (fld c r l)) := by
  have hll := hl.len
  rw [cells_length, Nat.mul_one] at hll
  have hmk := make_eq (n : Int) n rfl hn30
  have hlt := fun b o hn hA => hr.lt (b := b) (o := o) (by decide) hn hA
  have hT := h.fld.ltT
  have Hr := Lib.hid hr; clear hr
  have Hl := Lib.hid hl; clear hl
  have Hlt := Lib.hid hlt; clear hlt
  go_enter Try.func35, Try.ntmps35
  go_wp2_with fail
  refine (made1_any F T _ h).mono ?_; rintro e w1 ⟨rfl, k, hw1⟩
  have hb1 : Below w.heap.size w w1 := by rw [hw1]; exact below_drewN (Below.refl _ _) k
  have H1 := Lib.hid (h.later hb1)
  have hsz : w1.heap.size = w.heap.size := by rw [hw1]; rfl
  have Hsz := Lib.hid hsz
  clear h hw1
  have hs1 := hb1.size
  have Hq := Lib.hid (Hr.out.below hb1 (Nat.le_refl _))
  have Hq2 := Lib.hid (Hl.out.below hb1 (Nat.le_refl _))
  have Hb1 := Lib.hid hb1; clear hb1 hsz
  have hb2 : Below w1.heap.size w1 (w1.alloc (.cells (madeCells #[.int .u8 0] n) 5)) := (Below.refl _ _).alloc (Nat.le_refl _) _
  obtain ⟨w2, hcp, hm2, hf2⟩ := run_copy_all (cd := n) (Mine.noughts w1 n) (Hq2.out.below hb2 (Nat.le_refl _)) 3
  have hb3 : Below w1.heap.size w1 w2 := hb2.trans (hf2.below hb2.size (by rintro k rfl; exact Nat.le_refl _))
  have Hm2 := Lib.hid hm2; clear hm2
  clear hf2 hb2
  go_wp2_with fail
  clear hcp
  refine (add_any T w1.heap.size n n l A m cq r c _ (H1.out.later hb3).tabs w1.heap.size hb3.size hll Hq2.out.lim Hm2.out (by omega) (Hq.out.below hb3 (Nat.le_refl _)) ?_).mono ?_
  · intro b o hn hA
    have := Hlt.out b o hn hA
    omega
  rintro e w3 ⟨rfl, hm3, hb4⟩
  have hb := hb3.trans hb4
  go_wp2_with fail
  go_ret
  exact ⟨_, _, _, rfl, hm3.sl (by rw [fld_length, hll]) (Nat.le_refl _) Hq2.out.lim, Hb1.out.trans (hb.mono hs1), hm3.lower hs1⟩

/-- Are rows of one length? -/
def levelB (rs : List (List UInt8)) : Bool := decide (∀ j, j < rs.length → (rs.getD j []).length = (rs.getD 0 []).length)
/-- Are there so many rows, of one length? -/
def evenB (rs : List (List UInt8)) (k : Int) : Bool := decide ((rs.length : Int) = k) && levelB rs

set_option maxRecDepth 20000 in
set_option maxHeartbeats 800000 in
theorem level_any (A : Option Addr) (n c : Nat) (rs : List (List UInt8)) (w : World) (h : Gr w A n c rs) :
    Calls Try.prog 58 #[.slice A n c] w fun e w' => e = .returned (.bool (levelB rs)) ∧ w' = w := by
  have hlim := h.lim
  have hlen := h.len
  unfold maxLen at hlim
  have H := Lib.hid h; clear h
  have Hlen := Lib.hid hlen; clear hlen
  go_enter Try.func58, Try.ntmps58
  go_wp2_with fail
  go_loopw [7] (fun i wr => ∃ k : Nat, k ≤ n ∧ i = .int .i64 (k : Int) ∧ (∀ j, j < k → (rs.getD j []).length = (rs.getD 0 []).length) ∧ wr = w) (fun i _ => n - (intOf i).toNat)
  case atStart => exact ⟨0, by omega, rfl, fun j hj => absurd hj (by omega), rfl⟩
  case round =>
    obtain ⟨k, hk, rfl, hall, rfl⟩ := hrel
    have Hall := Lib.hid hall; clear hall
    by_cases hlt : k < n
    · obtain ⟨b, o, rfl, hc⟩ := H.out.at_ (by omega)
      obtain ⟨A1, c1, hc1, hs1⟩ := hc k _ (H.out.get hlt)
      obtain ⟨A0, c0, hc0, hs0⟩ := hc 0 _ (H.out.get (by omega))
      rw [Nat.add_zero] at hc0
      obtain ⟨L1, hL1⟩ : ∃ L, L = (rs.getD k []).length := ⟨_, rfl⟩
      obtain ⟨L0, hL0⟩ : ∃ L, L = (rs.getD 0 []).length := ⟨_, rfl⟩
      rw [← hL1] at hc1 hs1
      rw [← hL0] at hc0 hs0
      have hm1 := hs1.lim
      have hm0 := hs0.lim
      unfold maxLen at hm1 hm0
      clear hc hs1 hs0
      have HL1 := Lib.hid hL1; clear hL1
      have HL0 := Lib.hid hL0; clear hL0
      by_cases heq : L1 = L0
      · have hz : (((L1 : Int) != (L0 : Int))) = false := by simp [heq]
        have Heq := Lib.hid heq; clear heq
        go_wp2_with fail
        go_roundw
        case rel => exact ⟨k + 1, by omega, by go_num, fun j hj => by
          by_cases hjk : j = k
          · subst hjk
            rw [← HL1.out, ← HL0.out, Heq.out]
          · exact Hall.out j (by omega), trivial⟩
        case measure => simp [intOf]; omega
      · have hz : (((L1 : Int) != (L0 : Int))) = true := by simp; omega
        have Heq := Lib.hid heq; clear heq
        go_wp2_with fail
        go_ret
        have : levelB rs = false := decide_eq_false fun hh => Heq.out (by rw [HL1.out, HL0.out]; exact hh k (by rw [Hlen.out]; exact hlt))
        exact ⟨by rw [this]; rfl, rfl⟩
    · obtain rfl : k = n := by omega
      go_wp2_with fail
      go_ret
      have : levelB rs = true := decide_eq_true fun j hj => Hall.out j (by rw [← Hlen.out]; exact hj)
      exact ⟨by rw [this]; rfl, rfl⟩

set_option maxRecDepth 20000 in
set_option maxHeartbeats 800000 in
theorem takes_any (k m : Int) (A : Option Addr) (n c : Nat) (rs : List (List UInt8)) (w : World) (h : Gr w A n c rs) :
    Calls Try.prog 44 #[.agg #[.int .i64 k, .int .i64 m], .slice A n c] w fun e w' => e = .returned (.bool (evenB rs k)) ∧ Below w.heap.size w w' := by
  have hlim := h.lim
  have hlen := h.len
  unfold maxLen at hlim
  by_cases hn : (n : Int) = k
  · have hz : ((n : Int) == k) = true := by simpa using hn
    have hd : evenB rs k = levelB rs := by rw [evenB, hlen, decide_eq_true hn, Bool.true_and]
    rw [hd]
    have Hn := Lib.hid hn; clear hn hd
    go_enter Try.func44, Try.ntmps44
    go_wp2_with fail
    refine (level_any A n c rs _ (h.later ((Below.refl _ _).alloc (Nat.le_refl _) _))).mono ?_; rintro e w1 ⟨rfl, rfl⟩
    go_wp2_with fail
    go_ret
    exact ⟨rfl, (Below.refl _ _).alloc (Nat.le_refl _) _⟩
  · have hz : ((n : Int) == k) = false := by simpa using hn
    have hd : evenB rs k = false := by rw [evenB, hlen, decide_eq_false hn, Bool.false_and]
    rw [hd]
    have Hn := Lib.hid hn; clear hn hd
    go_enter Try.func44, Try.ntmps44
    go_wp2_with fail
    go_ret
    exact ⟨rfl, (Below.refl _ _).alloc (Nat.le_refl _) _⟩

/-- The sum of the first j rows, W wide, each times its factor. -/
def sumR (W : Nat) (f : List UInt8) (rs : List (List UInt8)) (j : Nat) : List UInt8 := rowL W fun p => xs j fun i => gm (f.getD i 0) ((rs.getD i []).getD p 0)
theorem sumR_zero (W : Nat) (f : List UInt8) (rs : List (List UInt8)) : sumR W f rs 0 = List.replicate W 0 := by
  apply List.ext_getElem
  · simp [sumR, rowL]
  · intro i h1 h2
    simp [sumR, rowL, xs]
theorem sumR_length (W : Nat) (f : List UInt8) (rs : List (List UInt8)) (j : Nat) : (sumR W f rs j).length = W := rowL_length _ _
theorem sumR_next (W : Nat) (f : List UInt8) (rs : List (List UInt8)) (j : Nat) (h : (rs.getD j []).length = W) : fld (f.getD j 0) (rs.getD j []) (sumR W f rs j) = sumR W f rs (j + 1) := by
  rw [← rowL_of h, sumR, rowL_fld]
  apply rowL_congr
  intro k hk
  rw [xs]
theorem levelB_at {rs : List (List UInt8)} (h : levelB rs = true) {j : Nat} (hj : j < rs.length) : (rs.getD j []).length = (rs.getD 0 []).length := (of_decide_eq_true h) j hj

theorem enters_fold : ∀ args w, (callFunc 35 args).run Try.prog w = .ok (.enter 35 args) w := enters_of Try.func35 (by kernel_rfl) rfl

set_option maxRecDepth 20000 in
set_option maxHeartbeats 1600000 in
theorem reckon_any (F T : Nat) (Af : Option Addr) (nf cf : Nat) (f : List UInt8) (A : Option Addr) (n c : Nat) (rs : List (List UInt8)) (w : World) (h : Fld1 w F T) (hf : Sl w 1 Af nf cf (cells f)) (hg : Gr w A n c rs) (h1 : 1 ≤ n) (hn : n ≤ nf) (hlv : levelB rs = true) (hW : (rs.getD 0 []).length ≤ 1048576) :
    Calls Try.prog 45 #[.slice Af nf cf, .slice A n c, .func (.func 35) #[.pointer (some ⟨F, 0, none⟩)] #[]] w (RetMine w.heap.size w (sumR (rs.getD 0 []).length f rs n)) := by
  have hlim := hf.lim
  have hfl := hf.len
  rw [cells_length, Nat.mul_one] at hfl
  have hlen := hg.len
  unfold maxLen at hlim
  obtain ⟨W, hWd⟩ : ∃ W, W = (rs.getD 0 []).length := ⟨_, rfl⟩
  rw [← hWd] at hW ⊢
  have hmk := make_eq (W : Int) W rfl (by omega)
  obtain ⟨b, o, rfl, hc⟩ := hg.at_ (by omega)
  obtain ⟨A0, c0, hc0, hs0⟩ := hc 0 _ (hg.get (by omega))
  rw [← hWd, Nat.add_zero] at hc0
  have Hf := Lib.hid hf; clear hf
  have Hg := Lib.hid hg; clear hg
  have H := Lib.hid h; clear h
  have HWd := Lib.hid hWd; clear hWd
  have Hlen := Lib.hid hlen; clear hlen
  have Hfl := Lib.hid hfl; clear hfl
  clear hc hs0
  go_enter Try.func45, Try.ntmps45
  go_wp2_with fail
  go_loopw [7, 17] (fun v i wr => ∃ (k : Nat) (A' : Option Addr) (n' c' : Nat), k ≤ n ∧ i = .int .i64 (k : Int) ∧ v = .slice A' n' c' ∧ Sl wr 1 A' n' c' (cells (sumR W f rs k)) ∧ Mine wr w.heap.size 5 A' n' (cells (sumR W f rs k)) ∧ Below w.heap.size w wr) (fun _ i _ => n - (intOf i).toNat)
  case atStart => exact ⟨0, _, _, _, by omega, rfl, rfl, by rw [sumR_zero]; exact Sl.noughts w W (by unfold maxLen; omega), by rw [sumR_zero]; exact Mine.noughts w W, (Below.refl _ _).alloc (Nat.le_refl _) _⟩
  case round =>
    obtain ⟨k, A', n', c', hk, rfl, rfl, hs, hm, hb⟩ := hrel
    have hn' : n' = W := by
      have := hs.len
      rw [cells_length, sumR_length] at this
      omega
    subst hn'
    have Hs := Lib.hid hs; clear hs
    have Hm := Lib.hid hm; clear hm
    have Hb := Lib.hid hb; clear hb
    by_cases hlt : k < n
    · obtain ⟨b', o', e, hc⟩ := (Hg.out.later Hb.out).at_ (by omega)
      injection e with e
      injection e with e1 e2
      subst e1; subst e2
      obtain ⟨Ak, ck, hck, hsk⟩ := hc k _ (Hg.out.get hlt)
      have hlk : (rs.getD k []).length = n' := by rw [HWd.out]; exact levelB_at hlv (by rw [Hlen.out]; exact hlt)
      rw [hlk] at hck hsk
      have Hlk := Lib.hid hlk; clear hlk
      clear hc
      have hkf : k < f.length := by rw [Hfl.out]; omega
      obtain ⟨bf, of, rfl, hcf⟩ := (Hf.out.below Hb.out (Nat.le_refl _)).at_ (k := k) (by omega)
      have hcell := hcf k _ (cells_get f k hkf)
      rw [bv] at hcell
      obtain ⟨y, hy⟩ : ∃ y, y = f[k] := ⟨_, rfl⟩
      rw [← hy] at hcell
      have Hy := Lib.hid hy; clear hy
      have Hcf := Lib.hid hcf; clear hcf
      have Hsk := Lib.hid hsk; clear hsk
      have hbo : wr.heap.size = wr.heap.size := rfl
      have hef := enters_fold
      go_wp2_with fail
      have hh := fold1_any F T y Ak n' ck (rs.getD k []) A' n' c' (sumR n' f rs k) wr (H.out.later Hb.out) Hsk.out Hs.out (by omega)
      refine hh.mono ?_; clear hh; rintro e w2 ⟨A2, n2, c2, rfl, hs2, hb2, hm2⟩
      have hnext : fld y (rs.getD k []) (sumR n' f rs k) = sumR n' f rs (k + 1) := by
        rw [Hy.out, ← sumR_next n' f rs k Hlk.out, show f.getD k 0 = f[k] from by simp [hkf]]
      rw [hnext] at hs2 hm2
      have Hs2 := Lib.hid hs2; clear hs2
      have Hm2 := Lib.hid hm2; clear hm2
      have hsz := Hb.out.size
      have Hb2 := Lib.hid (Hb.out.trans (hb2.mono hsz)); clear hb2 hnext
      go_wp2_with fail
      go_roundw
      case rel => exact ⟨k + 1, A2, n2, c2, by omega, by go_num, rfl, Hs2.out, Hm2.out.lower hsz, Hb2.out⟩
      case measure => simp [intOf]; omega
    · obtain rfl : k = n := by omega
      go_wp2_with fail
      go_ret
      exact ⟨A', _, c', rfl, Hs.out, Hb.out, Hm.out⟩
end Go.Proofs.Ytjacdabhlnfbkaa

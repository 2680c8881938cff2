/-
  Contracts of package code's small calls: there, right, n, has, made, New, K, M, N, Field, below; of a field that is nil. Condition: the field is one that New made ('Fld').
-/
import Derived.Test.YtjacdabhlnfbkaaGe
import Derived.Test.YtjacdabhlnfbkaaCaa
namespace Go.Proofs.Ytjacdabhlnfbkaa
open Go.RowKit
set_option linter.unusedVariables false

set_option maxRecDepth 20000 in
set_option maxHeartbeats 800000 in
theorem divnil_any (x y : Int) (w : World) :
    Calls Try.prog 49 #[.pointer none, .int .u8 x, .int .u8 y] w fun e w' => e = .returned (.tuple #[.int .u8 0, .int .i64 1]) ∧ w' = w := by
  have hm : Calls Try.prog 56 #[.pointer none] w fun e w' => e = .returned (.pointer none) ∧ w' = w := by
    go_enter Try.func56, Try.ntmps56
    go_wp2_with fail
    go_ret
    exact ⟨rfl, rfl⟩
  go_enter Try.func49, Try.ntmps49
  go_wp2_with fail
  refine hm.mono ?_; clear hm; rintro e w1 ⟨rfl, rfl⟩
  go_wp2_with fail
  go_ret2
  exact ⟨rfl, rfl⟩

theorem gd_11 : gd 1 1 = 1 := gm_ginv 1 (by decide)
set_option maxRecDepth 20000 in
set_option maxHeartbeats 800000 in
theorem there_any (F T : Nat) (w : World) (h : Fld w F T) :
    Calls Try.prog 24 #[.pointer (some ⟨F, 0, none⟩)] w (OnFld F T w (.bool true)) := by
  have hh := div_any F T 1 1 w h
  rw [if_neg (by decide), gd_11] at hh
  clear h
  go_enter Try.func24, Try.ntmps24
  go_wp2_with fail
  refine hh.mono ?_; clear hh; rintro e w1 ⟨rfl, h1, hf1⟩
  go_wp2_with fail
  go_ret
  exact ⟨rfl, h1, hf1⟩
set_option maxRecDepth 20000 in
set_option maxHeartbeats 800000 in
theorem there1_any (F T : Nat) (w : World) (h : Fld1 w F T) :
    Calls Try.prog 24 #[.pointer (some ⟨F, 0, none⟩)] w fun e w' => e = .returned (.bool true) ∧ ∃ k, w' = w.drewN k := by
  have hh := div1_any F T 1 1 (by decide) w h
  rw [gd_11] at hh
  clear h
  go_enter Try.func24, Try.ntmps24
  go_wp2_with fail
  refine hh.mono ?_; clear hh; rintro e w1 ⟨rfl, k, rfl⟩
  go_wp2_with fail
  go_ret
  exact ⟨rfl, k, rfl⟩
set_option maxRecDepth 20000 in
set_option maxHeartbeats 800000 in
theorem therenil_any (w : World) :
    Calls Try.prog 24 #[.pointer none] w fun e w' => e = .returned (.bool false) ∧ w' = w := by
  go_enter Try.func24, Try.ntmps24
  go_wp2_with fail
  refine (divnil_any 1 1 _).mono ?_; rintro e w1 ⟨rfl, rfl⟩
  go_wp2_with fail
  go_ret
  exact ⟨rfl, rfl⟩

/-- May a coder be of so many rows? -/
def mayB (k m : Int) : Bool := decide (1 ≤ k ∧ 1 ≤ m ∧ k + m ≤ 255)
theorem mayB_t {k m : Int} (h : 1 ≤ k ∧ 1 ≤ m ∧ k + m ≤ 255) : mayB k m = true := decide_eq_true h
theorem mayB_f {k m : Int} (h : ¬ (1 ≤ k ∧ 1 ≤ m ∧ k + m ≤ 255)) : mayB k m = false := decide_eq_false h

set_option maxRecDepth 20000 in
set_option maxHeartbeats 800000 in
theorem gright_any (k m : Int) (hk : -9223372036854775808 ≤ k ∧ k < 9223372036854775808) (hm : -9223372036854775808 ≤ m ∧ m < 9223372036854775808) (w : World) :
    Calls Try.prog 25 #[.agg #[.int .i64 k, .int .i64 m]] w fun e w' => e = .returned (.bool (mayB k m)) ∧ Below w.heap.size w w' := by
  obtain ⟨hk1, hk2⟩ := hk
  obtain ⟨hm1, hm2⟩ := hm
  by_cases h1 : 1 ≤ k
  · by_cases h2 : 1 ≤ m
    · by_cases h3 : m ≤ 255 - k
      · rw [mayB_t (by omega)]
        go_enter Try.func25, Try.ntmps25
        go_wp2_with fail
        go_ret
        exact ⟨rfl, (Below.refl _ _).alloc (Nat.le_refl _) _⟩
      · rw [mayB_f (by omega)]
        go_enter Try.func25, Try.ntmps25
        go_wp2_with fail
        go_ret
        exact ⟨rfl, (Below.refl _ _).alloc (Nat.le_refl _) _⟩
    · rw [mayB_f (by omega)]
      go_enter Try.func25, Try.ntmps25
      go_wp2_with fail
      go_ret
      exact ⟨rfl, (Below.refl _ _).alloc (Nat.le_refl _) _⟩
  · rw [mayB_f (by omega)]
    go_enter Try.func25, Try.ntmps25
    go_wp2_with fail
    go_ret
    exact ⟨rfl, (Below.refl _ _).alloc (Nat.le_refl _) _⟩

set_option maxRecDepth 20000 in
theorem gn_any (k m : Nat) (h : k + m ≤ 255) (w : World) :
    Calls Try.prog 47 #[.agg #[.int .i64 (k : Int), .int .i64 (m : Int)]] w fun e w' => e = .returned (.int .i64 ((k + m : Nat) : Int)) ∧ Below w.heap.size w w' := by
  go_enter Try.func47, Try.ntmps47
  go_wp2_with fail
  go_ret
  exact ⟨by simp, (Below.refl _ _).alloc (Nat.le_refl _) _⟩
set_option maxRecDepth 20000 in
theorem ghas_any (k m : Nat) (i : Int) (h : k + m ≤ 255) (w : World) :
    Calls Try.prog 59 #[.agg #[.int .i64 (k : Int), .int .i64 (m : Int)], .int .i64 i] w fun e w' => e = .returned (.bool (withinB i ((k + m : Nat) : Int))) ∧ Below w.heap.size w w' := by
  by_cases h1 : 0 ≤ i
  · by_cases h2 : i < ((k + m : Nat) : Int)
    · rw [withinB_t ⟨h1, h2⟩]
      go_enter Try.func59, Try.ntmps59
      go_wp2_with fail
      refine (gn_any k m h _).mono ?_; rintro e w1 ⟨rfl, hb⟩
      go_wp2_with fail
      go_ret
      exact ⟨congrArg (fun b => Ending.returned (.bool b)) (show decide (i < (k : Int) + (m : Int)) = true by simp; omega), ((Below.refl _ _).alloc (Nat.le_refl _) _).trans (hb.mono (by simp))⟩
    · rw [withinB_f (by omega)]
      go_enter Try.func59, Try.ntmps59
      go_wp2_with fail
      refine (gn_any k m h _).mono ?_; rintro e w1 ⟨rfl, hb⟩
      go_wp2_with fail
      go_ret
      exact ⟨congrArg (fun b => Ending.returned (.bool b)) (show decide (i < (k : Int) + (m : Int)) = false by simp; omega), ((Below.refl _ _).alloc (Nat.le_refl _) _).trans (hb.mono (by simp))⟩
  · rw [withinB_f (by omega)]
    go_enter Try.func59, Try.ntmps59
    go_wp2_with fail
    go_ret
    exact ⟨rfl, (Below.refl _ _).alloc (Nat.le_refl _) _⟩

/-- A coder that New made: at block C, with the field at F, T, whose tables are made. -/
structure Cod (w : World) (C k m F T : Nat) : Prop where
  row : w.heap[C]? = some (.cells #[.int .i64 (k : Int), .int .i64 (m : Int), .pointer (some ⟨F, 0, none⟩)] 60 (0, 0))
  fld : Fld1 w F T
  k1 : 1 ≤ k
  m1 : 1 ≤ m
  n255 : k + m ≤ 255
section
variable {w w' : World} {C k m F T : Nat}
theorem Cod.later (h : Cod w C k m F T) (hb : Below w.heap.size w w') : Cod w' C k m F T := ⟨(hb.block _ (block_lt h.row)).trans h.row, h.fld.later hb, h.k1, h.m1, h.n255⟩
theorem Cod.drewN (h : Cod w C k m F T) (j : Nat) : Cod (w.drewN j) C k m F T := h.later (below_drewN (Below.refl _ _) j)
theorem Cod.c0 (h : Cod w C k m F T) : w.cell? ⟨C, 0, none⟩ = some (.int .i64 (k : Int)) := by rw [cell_of_row _ _ _ _ _ _ h.row]; rfl
theorem Cod.c1 (h : Cod w C k m F T) : w.cell? ⟨C, 1, none⟩ = some (.int .i64 (m : Int)) := by rw [cell_of_row _ _ _ _ _ _ h.row]; rfl
theorem Cod.c2 (h : Cod w C k m F T) : w.cell? ⟨C, 2, none⟩ = some (.pointer (some ⟨F, 0, none⟩)) := by rw [cell_of_row _ _ _ _ _ _ h.row]; rfl
end

set_option maxRecDepth 20000 in
theorem cmade_any (C k m F T : Nat) (w : World) (h : Cod w C k m F T) :
    Calls Try.prog 43 #[.pointer (some ⟨C, 0, none⟩)] w fun e w' => e = .returned (.bool true) ∧ ∃ j, w' = w.drewN j := by
  have c2 := h.c2
  go_enter Try.func43, Try.ntmps43
  go_wp2_with fail
  refine (there1_any F T _ h.fld).mono ?_; rintro e w1 ⟨rfl, j, rfl⟩
  go_wp2_with fail
  go_ret
  exact ⟨rfl, j, rfl⟩

set_option maxRecDepth 20000 in
theorem ck_any (C k m F T : Nat) (w : World) (h : Cod w C k m F T) :
    Calls Try.prog 36 #[.pointer (some ⟨C, 0, none⟩)] w fun e w' => e = .returned (.int .i64 (k : Int)) ∧ w' = w := by
  have c0 := h.c0
  go_enter Try.func36, Try.ntmps36
  go_wp2_with fail
  go_ret
  exact ⟨rfl, rfl⟩
set_option maxRecDepth 20000 in
theorem cm_any (C k m F T : Nat) (w : World) (h : Cod w C k m F T) :
    Calls Try.prog 33 #[.pointer (some ⟨C, 0, none⟩)] w fun e w' => e = .returned (.int .i64 (m : Int)) ∧ w' = w := by
  have c1 := h.c1
  go_enter Try.func33, Try.ntmps33
  go_wp2_with fail
  go_ret
  exact ⟨rfl, rfl⟩
set_option maxRecDepth 20000 in
theorem cn_any (C k m F T : Nat) (w : World) (h : Cod w C k m F T) :
    Calls Try.prog 39 #[.pointer (some ⟨C, 0, none⟩)] w fun e w' => e = .returned (.int .i64 ((k + m : Nat) : Int)) ∧ Below w.heap.size w w' := by
  have c0 := h.c0
  have c1 := h.c1
  have h3 := h.n255
  have h0 := h.row
  have H0 := Lib.hid h0; clear h0
  go_enter Try.func39, Try.ntmps39
  go_wp2_with fail
  refine (gn_any k m h3 _).mono ?_; rintro e w1 ⟨rfl, hb⟩
  go_wp2_with fail
  go_ret
  exact ⟨rfl, hb⟩
set_option maxRecDepth 20000 in
theorem cf_any (C k m F T : Nat) (w : World) (h : Cod w C k m F T) :
    Calls Try.prog 34 #[.pointer (some ⟨C, 0, none⟩)] w fun e w' => e = .returned (.pointer (some ⟨F, 0, none⟩)) ∧ w' = w := by
  have c2 := h.c2
  go_enter Try.func34, Try.ntmps34
  go_wp2_with fail
  go_ret
  exact ⟨rfl, rfl⟩

/-- What New answers. -/
def RetNew (k m : Int) (F T : Nat) (w : World) (e : Ending) (w' : World) : Prop :=
  (mayB k m = false ∧ e = .returned (.pointer none) ∨ ∃ (K M C : Nat), k = (K : Int) ∧ m = (M : Int) ∧ e = .returned (.pointer (some ⟨C, 0, none⟩)) ∧ Cod w' C K M F T) ∧ Fld1 w' F T ∧ Fr (Ft T) w w'

set_option maxRecDepth 20000 in
set_option maxHeartbeats 800000 in
theorem cnew_any (F T : Nat) (k m : Int) (hk : -9223372036854775808 ≤ k ∧ k < 9223372036854775808) (hm : -9223372036854775808 ≤ m ∧ m < 9223372036854775808) (w : World) (h : Fld w F T) :
    Calls Try.prog 7 #[.pointer (some ⟨F, 0, none⟩), .int .i64 k, .int .i64 m] w (RetNew k m F T w) := by
  have hb0 : Below w.heap.size w (w.alloc (.cells #[.int .i64 k, .int .i64 m] 57)) := (Below.refl _ _).alloc (Nat.le_refl _) _
  have hh := there_any F T _ (h.later hb0)
  have hT := h.ltT
  have hnew := heap_alloc_new w (.cells #[.int .i64 k, .int .i64 m] 57)
  have Hb0 := Lib.hid hb0; clear hb0 h
  by_cases hmay : 1 ≤ k ∧ 1 ≤ m ∧ k + m ≤ 255
  · have hg := fun u => gright_any k m hk hm u
    rw [mayB_t hmay] at hg
    obtain ⟨K, rfl⟩ : ∃ K : Nat, k = (K : Int) := ⟨k.toNat, by omega⟩
    obtain ⟨M, rfl⟩ : ∃ M : Nat, m = (M : Int) := ⟨m.toNat, by omega⟩
    have Hmay := Lib.hid hmay; clear hmay
    have Hnew := Lib.hid hnew; clear hnew
    go_enter Try.func7, Try.ntmps7
    go_wp2_with fail
    refine hh.mono ?_; clear hh; rintro e w1 ⟨rfl, h1, hf1⟩
    have hrow := hf1.row_some Hnew.out (by show ¬ _ = T; omega)
    have a0 : w1.cell? ⟨w.heap.size, 0, none⟩ = some (.int .i64 (K : Int)) := by rw [cell_of_row _ _ _ _ _ _ hrow]; rfl
    have a1 : w1.cell? ⟨w.heap.size, 1, none⟩ = some (.int .i64 (M : Int)) := by rw [cell_of_row _ _ _ _ _ _ hrow]; rfl
    have H1 := Lib.hid h1; clear h1
    have Hf1 := Lib.hid ((Fr.of_below Hb0.out : Fr (Ft T) _ _).trans hf1); clear hf1
    have Hrow := Lib.hid hrow; clear hrow
    go_wp2_with fail
    refine (hg _).mono ?_; clear hg; rintro e w2 ⟨rfl, hb2⟩
    have hrow2 := (hb2.block _ (block_lt Hrow.out)).trans Hrow.out
    have b0 : w2.cell? ⟨w.heap.size, 0, none⟩ = some (.int .i64 (K : Int)) := by rw [cell_of_row _ _ _ _ _ _ hrow2]; rfl
    have b1 : w2.cell? ⟨w.heap.size, 1, none⟩ = some (.int .i64 (M : Int)) := by rw [cell_of_row _ _ _ _ _ _ hrow2]; rfl
    have Hb2 := Lib.hid hb2; clear hb2 a0 a1 hrow2
    go_wp2_with fail
    go_ret
    have hb3 : Below w2.heap.size w2 (w2.alloc (.cells #[.int .i64 (K : Int), .int .i64 (M : Int), .pointer (some ⟨F, 0, none⟩)] 60)) := (Below.refl _ _).alloc (Nat.le_refl _) _
    refine ⟨.inr ⟨K, M, w2.heap.size, rfl, rfl, rfl, heap_alloc_new w2 _, (H1.out.later Hb2.out).later hb3, ?_, ?_, ?_⟩, (H1.out.later Hb2.out).later hb3, (Hf1.out.trans (Fr.of_below Hb2.out)).trans (Fr.of_below hb3)⟩
    all_goals (have := Hmay.out; omega)
  · have hg := fun u => gright_any k m hk hm u
    have hf := mayB_f hmay
    rw [hf] at hg
    have Hf := Lib.hid hf; clear hf
    have Hnew := Lib.hid hnew; clear hnew hmay
    go_enter Try.func7, Try.ntmps7
    go_wp2_with fail
    refine hh.mono ?_; clear hh; rintro e w1 ⟨rfl, h1, hf1⟩
    have hrow := hf1.row_some Hnew.out (by show ¬ _ = T; omega)
    have a0 : w1.cell? ⟨w.heap.size, 0, none⟩ = some (.int .i64 k) := by rw [cell_of_row _ _ _ _ _ _ hrow]; rfl
    have a1 : w1.cell? ⟨w.heap.size, 1, none⟩ = some (.int .i64 m) := by rw [cell_of_row _ _ _ _ _ _ hrow]; rfl
    have H1 := Lib.hid h1; clear h1
    have Hf1 := Lib.hid ((Fr.of_below Hb0.out : Fr (Ft T) _ _).trans hf1); clear hf1 hrow
    go_wp2_with fail
    refine (hg _).mono ?_; clear hg; rintro e w2 ⟨rfl, hb2⟩
    have Hb2 := Lib.hid hb2; clear hb2 a0 a1
    go_wp2_with fail
    go_ret
    exact ⟨.inl ⟨Hf.out, rfl⟩, H1.out.later Hb2.out, Hf1.out.trans (Fr.of_below Hb2.out)⟩
set_option maxRecDepth 20000 in
set_option maxHeartbeats 800000 in
theorem cnewnil_any (k m : Int) (w : World) :
    Calls Try.prog 7 #[.pointer none, .int .i64 k, .int .i64 m] w fun e w' => e = .returned (.pointer none) ∧ Below w.heap.size w w' := by
  go_enter Try.func7, Try.ntmps7
  go_wp2_with fail
  refine (therenil_any _).mono ?_; rintro e w1 ⟨rfl, rfl⟩
  go_wp2_with fail
  go_ret
  exact ⟨rfl, (Below.refl _ _).alloc (Nat.le_refl _) _⟩

/-- With the tables made, nothing that lay turns. -/
theorem Fr.madeAll {F T : Nat} {w w' : World} (h : Fld1 w F T) (h' : Fld1 w' F T) (hf : Fr (Ft T) w w') : Below w.heap.size w w' :=
  ⟨hf.os, hf.tape, hf.output, hf.size, fun k hk => by
    by_cases e : k = T
    · subst e
      have a : w.heap[k]? = _ := h.tabs
      have b : w'.heap[k]? = _ := h'.tabs
      rw [a, b]
    · exact hf.block k hk e⟩

/-- The numbers from 0 on. -/
def upto (n : Nat) : List UInt8 := (List.range n).map UInt8.ofNat
theorem upto_length (n : Nat) : (upto n).length = n := by simp [upto]
theorem upto_get (n i : Nat) (h : i < n) : (upto n)[i]? = some (UInt8.ofNat i) := by simp [upto, h]
/-- The first k of them, noughts behind. -/
def uptoN (n k : Nat) : List UInt8 := (List.range n).map fun i => if i < k then UInt8.ofNat i else 0
theorem uptoN_length (n k : Nat) : (uptoN n k).length = n := by simp [uptoN]
theorem uptoN_zero (n : Nat) : uptoN n 0 = List.replicate n 0 := by
  apply List.ext_getElem
  · simp [uptoN]
  · intro i h1 h2
    simp [uptoN]
theorem uptoN_all (n : Nat) : uptoN n n = upto n := by
  apply List.ext_getElem
  · simp [uptoN, upto]
  · intro i h1 h2
    rw [uptoN_length] at h1
    simp [uptoN, upto, h1]
theorem uptoN_at (n k : Nat) (h : k < n) : (uptoN n k)[k]? = some 0 := by simp [uptoN, h]
theorem uptoN_set (n k : Nat) (h : k < n) : (uptoN n k).set k (UInt8.ofNat k) = uptoN n (k + 1) := by
  apply List.ext_getElem
  · simp [uptoN]
  · intro i h1 h2
    rw [List.getElem_set]
    by_cases he : k = i
    · subst he
      simp [uptoN]
    · rw [if_neg he]
      have h3 : (i < k + 1) = (i < k) := by apply propext; omega
      simp only [uptoN, List.getElem_map, List.getElem_range, h3]

set_option maxRecDepth 20000 in
set_option maxHeartbeats 800000 in
theorem below_any (n : Nat) (hn : n ≤ 255) (w : World) :
    Calls Try.prog 61 #[.int .i64 (n : Int)] w (RetMine w.heap.size w (upto n)) := by
  have hmk := make_eq (n : Int) n rfl (by omega)
  go_enter Try.func61, Try.ntmps61
  go_wp2_with fail
  go_loopw [9] (fun i wr => ∃ k : Nat, k ≤ n ∧ i = .int .i64 (k : Int) ∧ Mine wr w.heap.size 5 (some ⟨w.heap.size, 0, none⟩) n (cells (uptoN n k)) ∧ Below w.heap.size w wr) (fun i _ => n - (intOf i).toNat)
  case atStart => exact ⟨0, by omega, rfl, by rw [uptoN_zero]; exact Mine.noughts w n, (Below.refl _ _).alloc (Nat.le_refl _) _⟩
  case round =>
    obtain ⟨k, hk, rfl, hm, hb⟩ := hrel
    by_cases hlt : k < n
    · obtain ⟨g, hg, hB, hc, hz⟩ := hm.at_ hlt (uptoN_at n k hlt)
      injection hg with hg
      injection hg with hg _
      subst hg
      have hset := hm.set hlt (UInt8.ofNat k)
      rw [uptoN_set n k hlt, UInt8.toNat_ofNat', show k % 2 ^ 8 = k from by omega] at hset
      have Hset := Lib.hid hset; clear hset
      have Hm := Lib.hid hm; clear hm
      have hwr : wrap64 (k : Int) = (k : Int) := by unfold wrap64; omega
      go_wp2_with fail
      go_roundw
      case rel => exact ⟨k + 1, by omega, by go_num, Hset.out, hb.setCell (Nat.le_refl _) _⟩
      case measure => simp [intOf]; omega
    · obtain rfl : k = n := by omega
      have Hm := Lib.hid hm; clear hm
      go_wp2_with fail
      go_ret
      have := Hm.out
      rw [uptoN_all] at this
      exact ⟨_, _, _, rfl, this.sl (upto_length _) (Nat.le_refl _) (by unfold maxLen; omega), hb, this⟩
end Go.Proofs.Ytjacdabhlnfbkaa

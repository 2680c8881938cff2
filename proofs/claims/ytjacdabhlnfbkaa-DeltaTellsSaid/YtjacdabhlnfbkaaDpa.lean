/-
  Contracts of package delta's small calls: made, hasData, fit; of bytes.Equal, and of Scale with a field whose tables are made. Condition: the coder is one that New made ('Cod').
-/
import Derived.Test.YtjacdabhlnfbkaaCbd
import Derived.Test.YtjacdabhlnfbkaaCaf
namespace Go.Proofs.Ytjacdabhlnfbkaa
open Go.RowKit Go.Proofs
set_option linter.unusedVariables false

set_option maxRecDepth 20000 in
theorem dmade_yes (C k m F T : Nat) (w : World) (h : Cod w C k m F T) :
    Calls Try.prog 26 #[.pointer (some ⟨C, 0, none⟩)] w fun e w' => e = .returned (.bool true) ∧ w' = w := by
  have hh := cf_any C k m F T w h
  clear h
  go_enter Try.func26, Try.ntmps26
  go_wp2_with fail
  refine hh.mono ?_; clear hh; rintro e w1 ⟨rfl, rfl⟩
  go_wp2_with fail
  go_ret
  exact ⟨rfl, rfl⟩
set_option maxRecDepth 20000 in
theorem cf_nil (w : World) : Calls Try.prog 34 #[.pointer none] w fun e w' => e = .returned (.pointer none) ∧ w' = w := by
  go_enter Try.func34, Try.ntmps34
  go_wp2_with fail
  go_ret
  exact ⟨rfl, rfl⟩
set_option maxRecDepth 20000 in
theorem dmade_no (w : World) : Calls Try.prog 26 #[.pointer none] w fun e w' => e = .returned (.bool false) ∧ w' = w := by
  go_enter Try.func26, Try.ntmps26
  go_wp2_with fail
  refine (cf_nil _).mono ?_; rintro e w1 ⟨rfl, rfl⟩
  go_wp2_with fail
  go_ret
  exact ⟨rfl, rfl⟩

set_option maxRecDepth 20000 in
theorem hasData_any (C k m F T : Nat) (j : Int) (w : World) (h : Cod w C k m F T) :
    Calls Try.prog 27 #[.pointer (some ⟨C, 0, none⟩), .int .i64 j] w fun e w' => e = .returned (.bool (withinB j (k : Int))) ∧ w' = w := by
  have hh := ck_any C k m F T w h
  clear h
  by_cases h1 : 0 ≤ j
  · by_cases h2 : j < (k : Int)
    · rw [withinB_t ⟨h1, h2⟩]
      go_enter Try.func27, Try.ntmps27
      go_wp2_with fail
      refine hh.mono ?_; clear hh; rintro e w1 ⟨rfl, rfl⟩
      go_wp2_with fail
      go_ret
      exact ⟨by simp, rfl⟩
    · rw [withinB_f (by omega)]
      go_enter Try.func27, Try.ntmps27
      go_wp2_with fail
      refine hh.mono ?_; clear hh; rintro e w1 ⟨rfl, rfl⟩
      go_wp2_with fail
      go_ret
      exact ⟨by simp; omega, rfl⟩
  · rw [withinB_f (by omega)]
    go_enter Try.func27, Try.ntmps27
    go_wp2_with fail
    go_ret
    exact ⟨rfl, rfl⟩

set_option maxRecDepth 20000 in
theorem fit1_any (b L n c : Nat) (A : Option Addr) (w : World) (hb : w.cell? ⟨b, 0, none⟩ = some (.int .i64 (L : Int))) :
    Calls Try.prog 54 #[.slice A n c, .pointer (some ⟨b, 0, none⟩)] w fun e w' => e = .returned (.bool (!decide (n = L))) ∧ w' = w := by
  by_cases h : n = L
  · have hz : ((n : Int) != (L : Int)) = false := by simp [h]
    rw [decide_eq_true h]
    have Hx := Lib.hid h; clear h
    go_enter Try.func54, Try.ntmps54
    go_wp2_with fail
    go_ret
    exact ⟨by first | rfl | simp [Hx.out], rfl⟩
  · have hz : ((n : Int) != (L : Int)) = true := by simp; omega
    rw [decide_eq_false h]
    have Hx := Lib.hid h; clear h
    go_enter Try.func54, Try.ntmps54
    go_wp2_with fail
    go_ret
    exact ⟨by first | rfl | (have := Hx.out; simp; omega), rfl⟩

set_option maxRecDepth 20000 in
set_option maxHeartbeats 800000 in
theorem findex_any (b L : Nat) (A : Option Addr) (n c : Nat) (rs : List (List UInt8)) (w : World) (hg : Gr w A n c rs) (hb : w.cell? ⟨b, 0, none⟩ = some (.int .i64 (L : Int))) :
    Calls Try.prog 64 #[.slice A n c, .func (.func 54) #[] #[.pointer (some ⟨b, 0, none⟩)]] w
      fun e w' => w' = w ∧ ((e = .returned (.int .i64 (-1)) ∧ ∀ i, i < n → (rs.getD i []).length = L) ∨ ∃ d : Nat, e = .returned (.int .i64 (d : Int)) ∧ d < n ∧ (rs.getD d []).length ≠ L) := by
  have hn := hg.lim
  unfold maxLen at hn
  have Hg := Lib.hid hg; clear hg
  have Hb := Lib.hid hb; clear hb
  go_enter Try.func64, Try.ntmps64
  go_wp2_with fail
  go_loopw [8] (fun i wr => ∃ k : Nat, k ≤ n ∧ i = .int .i64 (k : Int) ∧ wr = w ∧ ∀ j, j < k → (rs.getD j []).length = L) (fun i _ => n - (intOf i).toNat)
  case atStart => exact ⟨0, by omega, rfl, rfl, fun j hj => absurd hj (by omega)⟩
  case round =>
    obtain ⟨k, hk, rfl, rfl, hz⟩ := hrel
    have Hz := Lib.hid hz; clear hz
    by_cases hlt : k < n
    · obtain ⟨b', o, rfl, hc⟩ := Hg.out.at_ (by omega)
      obtain ⟨A1, c1, hc1, hs1⟩ := hc k _ (Hg.out.get hlt)
      obtain ⟨r, hr⟩ : ∃ r, r = rs.getD k [] := ⟨_, rfl⟩
      rw [← hr] at hc1 hs1
      obtain ⟨q, hq⟩ : ∃ q, q = r.length := ⟨_, rfl⟩
      rw [← hq] at hc1
      have hh := fit1_any b L q c1 A1 wr Hb.out
      clear hc hs1
      have Hr := Lib.hid hr; clear hr
      have Hq := Lib.hid hq; clear hq
      by_cases he : q = L
      · rw [decide_eq_true he] at hh
        have He := Lib.hid he; clear he
        go_wp2_with fail
        refine hh.mono ?_; clear hh; rintro e w' ⟨rfl, rfl⟩
        go_wp2_with fail
        go_roundw
        case rel => exact ⟨k + 1, by omega, by go_num, trivial, fun j hjk => by
          by_cases hj : j = k
          · subst hj; rw [← Hr.out, ← Hq.out, He.out]
          · exact Hz.out j (by omega)⟩
        case measure => simp [intOf]; omega
      · rw [decide_eq_false he] at hh
        have He := Lib.hid he; clear he
        go_wp2_with fail
        refine hh.mono ?_; clear hh; rintro e w' ⟨rfl, rfl⟩
        go_wp2_with fail
        go_ret
        exact ⟨rfl, .inr ⟨k, rfl, hlt, by rw [← Hr.out, ← Hq.out]; exact He.out⟩⟩
    · obtain rfl : k = n := by omega
      go_wp2_with fail
      go_ret
      exact ⟨rfl, .inl ⟨rfl, Hz.out⟩⟩

/-- Are there so many rows, all of that length? -/
def fitB (rs : List (List UInt8)) (many : Int) (L : Nat) : Bool := decide ((rs.length : Int) = many) && decide (∀ i, i < rs.length → (rs.getD i []).length = L)
theorem fitB_ok {rs : List (List UInt8)} {many : Int} {L : Nat} (h : fitB rs many L = true) : (rs.length : Int) = many ∧ ∀ i, i < rs.length → (rs.getD i []).length = L := by
  rw [fitB, Bool.and_eq_true] at h
  exact ⟨of_decide_eq_true h.1, of_decide_eq_true h.2⟩

set_option maxRecDepth 20000 in
theorem fcontains_any (b L : Nat) (A : Option Addr) (n c : Nat) (rs : List (List UInt8)) (w : World) (hg : Gr w A n c rs) (hb : w.cell? ⟨b, 0, none⟩ = some (.int .i64 (L : Int))) :
    Calls Try.prog 55 #[.slice A n c, .func (.func 54) #[] #[.pointer (some ⟨b, 0, none⟩)]] w
      fun e w' => w' = w ∧ e = .returned (.bool (!decide (∀ i, i < rs.length → (rs.getD i []).length = L))) := by
  have hh := findex_any b L A n c rs w hg hb
  have hl := hg.len
  have Hl := Lib.hid hl
  clear hg hb hl
  go_enter Try.func55, Try.ntmps55
  go_wp2_with fail
  refine hh.mono ?_; clear hh; rintro e w' ⟨rfl, ⟨rfl, ha⟩ | ⟨d, rfl, hd, ha⟩⟩
  · have Ha := Lib.hid ha; clear ha
    go_wp2_with fail
    go_ret
    exact ⟨rfl, by rw [decide_eq_true (fun i hi => Ha.out i (by rw [← Hl.out]; exact hi))]; rfl⟩
  · have Ha := Lib.hid ha; clear ha
    go_wp2_with fail
    go_ret
    exact ⟨rfl, by rw [decide_eq_false (fun hall => Ha.out (hall d (by rw [Hl.out]; exact hd)))]; first | rfl | (simp; omega)⟩

set_option maxRecDepth 20000 in
theorem fit_any (A : Option Addr) (n c : Nat) (rs : List (List UInt8)) (many : Int) (L : Nat) (w : World) (hg : Gr w A n c rs) :
    Calls Try.prog 32 #[.slice A n c, .int .i64 many, .int .i64 (L : Int)] w fun e w' => e = .returned (.bool (fitB rs many L)) ∧ Below w.heap.size w w' := by
  have hb0 : Below w.heap.size w (w.alloc (.cells #[.int .i64 (L : Int)] 3)) := (Below.refl _ _).alloc (Nat.le_refl _) _
  have hh := fcontains_any w.heap.size L A n c rs _ (hg.later hb0) (cell_of_one (heap_alloc_new w (.cells #[.int .i64 (L : Int)] 3)))
  have hl := hg.len
  have Hb0 := Lib.hid hb0; clear hb0
  by_cases hn : (n : Int) = many
  · have hz : ((n : Int) == many) = true := by simpa using hn
    have hd : fitB rs many L = decide (∀ i, i < rs.length → (rs.getD i []).length = L) := by rw [fitB, hl, decide_eq_true hn, Bool.true_and]
    rw [hd]
    obtain ⟨x, hx⟩ : ∃ x, x = decide (∀ i, i < rs.length → (rs.getD i []).length = L) := ⟨_, rfl⟩
    rw [← hx] at hh ⊢
    have Hn := Lib.hid hn
    clear hn hd hx hg hl
    go_enter Try.func32, Try.ntmps32
    go_wp2_with fail
    refine hh.mono ?_; clear hh; rintro e w' ⟨rfl, rfl⟩
    cases x
    · go_wp2_with fail
      go_ret
      exact ⟨rfl, Hb0.out⟩
    · go_wp2_with fail
      go_ret
      exact ⟨rfl, Hb0.out⟩
  · have hz : ((n : Int) == many) = false := by simpa using hn
    have hd : fitB rs many L = false := by rw [fitB, hl, decide_eq_false hn, Bool.false_and]
    rw [hd]
    have Hn := Lib.hid hn
    clear hn hd hg hl hh
    go_enter Try.func32, Try.ntmps32
    go_wp2_with fail
    go_ret
    exact ⟨rfl, Hb0.out⟩

set_option maxRecDepth 20000 in
theorem bequal_any (A : Option Addr) (n c : Nat) (a : List UInt8) (A2 : Option Addr) (n2 c2 : Nat) (b : List UInt8) (w : World) (h : Sl w 1 A n c (cells a)) (h2 : Sl w 1 A2 n2 c2 (cells b)) :
    Calls Try.prog 40 #[.slice A n c, .slice A2 n2 c2] w fun e w' => e = .returned (.bool (decide (a = b))) ∧ w' = w := by
  have k1 := str_of h
  have k2 := str_of h2
  clear h h2
  by_cases heq : a = b
  · have hz : ((bstr a).toList == (bstr b).toList) = true := by rw [bstr_toList, bstr_toList]; simpa using heq
    rw [decide_eq_true heq]
    have Hx := Lib.hid heq; clear heq
    go_enter Try.func40, Try.ntmps40
    go_wp2_with fail
    go_ret
    exact ⟨by first | rfl | rw [hz], rfl⟩
  · have hz : ((bstr a).toList == (bstr b).toList) = false := by rw [bstr_toList, bstr_toList]; simpa using heq
    rw [decide_eq_false heq]
    have Hx := Lib.hid heq; clear heq
    go_enter Try.func40, Try.ntmps40
    go_wp2_with fail
    go_ret
    exact ⟨by first | rfl | rw [hz], rfl⟩

set_option maxRecDepth 20000 in
set_option maxHeartbeats 800000 in
theorem scale1_any (F T : Nat) (c : UInt8) (A : Option Addr) (m cq : Nat) (r : List UInt8) (w : World) (h : Fld1 w F T) (hr : Sl w 1 A m cq (cells r)) (hm30 : m ≤ 1073741824) :
    Calls Try.prog 50 #[.pointer (some ⟨F, 0, none⟩), .int .u8 (c.toNat : Int), .slice A m cq] w (RetMine w.heap.size w (r.map (gm c))) := by
  have hrl := hr.len
  rw [cells_length, Nat.mul_one] at hrl
  have hmk := make_eq (m : Int) m rfl hm30
  have hlt := fun b o hn hA => hr.lt (b := b) (o := o) (by decide) hn hA
  have hT := h.fld.ltT
  have Hr := Lib.hid hr; clear hr
  have Hlt := Lib.hid hlt; clear hlt
  go_enter Try.func50, Try.ntmps50
  go_wp2_with fail
  refine (made1_any F T _ h).mono ?_; rintro e w1 ⟨rfl, k, hw1⟩
  have hb1 : Below w.heap.size w w1 := by rw [hw1]; exact below_drewN (Below.refl _ _) k
  have hsz : w1.heap.size = w.heap.size := by rw [hw1]; rfl
  have Hsz := Lib.hid hsz
  have H1 := Lib.hid (h.later hb1); clear h hw1
  have hs1 := hb1.size
  have Hq := Lib.hid (Hr.out.below hb1 (Nat.le_refl _))
  have Hb1 := Lib.hid hb1; clear hb1 hsz
  go_wp2_with fail
  have hb2 : Below w1.heap.size w1 (w1.alloc (.cells (madeCells #[.int .u8 0] m) 5)) := (Below.refl _ _).alloc (Nat.le_refl _) _
  refine (add_any T w1.heap.size m m (List.replicate m 0) A m cq r c _ (H1.out.later hb2).tabs w1.heap.size hb2.size (by simp) Hq.out.lim (Mine.noughts w1 m) (by omega) (Hq.out.below hb2 (Nat.le_refl _)) ?_).mono ?_
  · intro b o hn hA
    have := Hlt.out b o hn hA
    have := Hsz.out
    omega
  rintro e w2 ⟨rfl, hm2, hb3⟩
  rw [fld_noughts c r m hrl] at hm2
  have hb := hb2.trans hb3
  go_wp2_with fail
  go_ret
  exact ⟨_, _, _, rfl, hm2.sl (by rw [List.length_map, hrl]) (Nat.le_refl _) Hq.out.lim, Hb1.out.trans (hb.mono hs1), hm2.lower hs1⟩
end Go.Proofs.Ytjacdabhlnfbkaa

/-
  Contracts of package delta's rows, Spread and Update. Condition: the coder is one that New made ('Cod'). (Written by gen_dpc.py.)
-/
import Derived.Test.YtjacdabhlnfbkaaDpb
import Derived.Test.YtjacdabhlnfbkaaDnc
namespace Go.Proofs.Ytjacdabhlnfbkaa
open Go.RowKit Go.Proofs
set_option linter.unusedVariables false

/-- The first q rows of f, from one on. -/
def fromL (f : Nat → List UInt8) (fr q : Nat) : List (List UInt8) := (List.range q).map fun x => f (fr + x)
theorem fromL_next (f : Nat → List UInt8) (fr q : Nat) : fromL f fr q ++ [f (fr + q)] = fromL f fr (q + 1) := by simp [fromL, List.range_succ]

set_option maxRecDepth 20000 in
set_option maxHeartbeats 1600000 in
theorem trows_any (C k m F T j fr : Nat) (Ac : Option Addr) (Lc cc : Nat) (ch : List UInt8) (Ap : Option Addr) (np cp : Nat) (par : List (List UInt8)) (w : World) (h : Cod w C k m F T) (hs : Sl w 1 Ac Lc cc (cells ch)) (hg : Gr w Ap np cp par) (hfr : fr ≤ k + m)
    (g : Nat) (eg : ∀ args w, (callFunc g args).run Try.prog w = .ok (.enter g args) w) (f : Nat → List UInt8)
    (ht : ∀ (W : World) (i : Nat), fr ≤ i → i < k + m → Below w.heap.size w W → Calls Try.prog g #[.agg #[.pointer (some ⟨C, 0, none⟩), .int .i64 (j : Int), .slice Ac Lc cc, .slice Ap np cp], .int .i64 (i : Int)] W (RetMine W.heap.size W (f i))) :
    Calls Try.prog 28 #[.agg #[.pointer (some ⟨C, 0, none⟩), .int .i64 (j : Int), .slice Ac Lc cc, .slice Ap np cp], .int .i64 (fr : Int), .func (.func g) #[] #[]] w fun e w' => (∃ A c, e = .returned (.slice A (k + m - fr) c) ∧ Gr w' A (k + m - fr) c (fromL f fr (k + m - fr)) ∧ ∀ b o, A = some ⟨b, o, none⟩ → w.heap.size ≤ b) ∧ Below w.heap.size w w' := by
  have hst := Trn.start (j := j) h hs hg
  have h3 := h.n255
  have hcn := fun u hc => cn_any C k m F T u hc
  obtain ⟨N, hN⟩ : ∃ N, N = k + m := ⟨_, rfl⟩
  simp only [← hN] at hcn ht hfr h3 ⊢
  have Ht := Lib.hid ht
  clear h hs hg ht hN
  go_enter Try.func28, Try.ntmps28
  go_upto_region 1 with (fail)
  obtain ⟨B, hB⟩ : ∃ B, B = w.heap.size := ⟨_, rfl⟩
  rw [← hB] at hst ⊢
  obtain ⟨w1, hw1⟩ : ∃ x, x = w.alloc (.cells #[.pointer (some ⟨C, 0, none⟩), .int .i64 (j : Int), .slice Ac Lc cc, .slice Ap np cp] 83) := ⟨_, rfl⟩
  rw [← hw1] at hst ⊢
  clear hw1 hB
  have S1 := Lib.hid hst; clear hst
  have b0 := S1.out.b0
  go_wp2_with fail
  refine (hcn _ S1.out.cod).mono ?_; rintro e w2 ⟨rfl, hb2⟩
  have S2 := Lib.hid (S1.out.later hb2)
  have hmk := makes0_eq ((N : Int) - (fr : Int)) (N - fr) (by omega) (by omega)
  clear b0 hb2 S1
  go_wp2_with fail
  go_loopw [7, 8] (fun v i wr => ∃ (y q : Nat) (A' : Option Addr) (c' : Nat), y = fr + q ∧ q ≤ N - fr ∧ i = .int .i64 (y : Int) ∧ v = .slice A' q c' ∧ Gg wr w2.heap.size A' q c' (fromL f fr q) ∧ Below w2.heap.size w2 wr) (fun _ i _ => N - (intOf i).toNat)
  case atStart => exact ⟨fr, 0, _, _, rfl, by omega, rfl, rfl, Gg.made0 w2 (N - fr) (by unfold maxLen; omega), (Below.refl _ _).alloc (Nat.le_refl _) _⟩
  case round =>
    obtain ⟨y, q, A', c', hy, hq, rfl, rfl, hG, hbr⟩ := hrel
    have Hbr := Lib.hid hbr
    have hszr := hbr.size
    clear hbr
    have HG := Lib.hid hG; clear hG
    have Sr := Lib.hid (S2.out.later Hbr.out)
    have b0 := Sr.out.b0
    by_cases hlt : y < N
    · have Hy := Lib.hid hy; clear hy
      go_wp2_with fail
      refine (hcn _ Sr.out.cod).mono ?_; rintro e w3 ⟨rfl, hb3⟩
      have S3 := Lib.hid (Sr.out.later hb3)
      have HG3 := Lib.hid (HG.out.later hb3)
      have hsz3 := hb3.size
      have Hb3 := Lib.hid (Hbr.out.trans (hb3.mono hszr))
      clear b0 hb3 Sr HG
      have b0 := S3.out.b0
      have b1 := S3.out.b1
      have b2 := S3.out.b2
      have b3 := S3.out.b3
      go_wp2_with fail
      have hh := Ht.out w3 y (by have := Hy.out; omega) hlt S3.out.bel
      refine hh.mono ?_; clear hh; rintro e w4 ⟨Aq, nq, cq, rfl, hsc, hb4, hmc⟩
      have hnq : nq = (f y).length := by
        have := hsc.len
        rw [cells_length] at this
        omega
      have hoth : Oth A' Aq nq := fun b1 o1 o2 hn e1 e2 => by
        obtain ⟨g', cur, e', hg', _⟩ := hmc hn
        rw [e1] at e'; injection e' with e'; injection e' with e' _
        have := (HG3.out.own _ _ e2).2
        omega
      have Hsc := Lib.hid hsc
      have Hoth := Lib.hid hoth
      have Hnq := Lib.hid hnq
      have hsz4 := hb4.size
      have HG4 := Lib.hid (HG3.out.later hb4)
      have Hb4 := Lib.hid (Hb3.out.trans (hb4.mono Hb3.out.size))
      clear hsc hmc hoth hnq hb4 b0 b1 b2 b3 S3 HG3
      go_wp2_with (at_builtin; refine wpList_append_g1 (B := w2.heap.size) rfl (.tmp 23) (.tmp 28) rfl rfl HG4.out ?pa Aq nq cq (f y) Hnq.out Hsc.out Hoth.out rfl ?pb ?pc)
      case pa => omega
      case pb => omega
      intro A5 c5 w5 hG5 hb5 hf5
      rw [Hy.out, fromL_next] at hG5
      have HG5 := Lib.hid hG5
      have Hb5 := Lib.hid (Hb4.out.trans hb5)
      clear hG5 hb5 hf5
      go_wp2_with fail
      go_roundw
      case rel => exact ⟨y + 1, q + 1, A5, c5, by have := Hy.out; omega, by have := Hy.out; omega, by go_num, rfl, HG5.out, Hb5.out⟩
      case measure => simp [intOf]; omega
    · obtain rfl : q = N - fr := by omega
      have Hy := Lib.hid hy; clear hy
      go_wp2_with fail
      refine (hcn _ Sr.out.cod).mono ?_; rintro e w3 ⟨rfl, hb3⟩
      go_wp2_with fail
      go_ret
      exact ⟨⟨A', c', rfl, HG.out.gr.later hb3, fun b o e => Nat.le_trans S2.out.bel.size (HG.out.own b o e).1⟩, Sr.out.bel.trans (hb3.mono Sr.out.bel.size)⟩

theorem enters_alone : ∀ args w, (callFunc 29 args).run Try.prog w = .ok (.enter 29 args) w := enters_of Try.func29 (by kernel_rfl) rfl
theorem enters_added : ∀ args w, (callFunc 37 args).run Try.prog w = .ok (.enter 37 args) w := enters_of Try.func37 (by kernel_rfl) rfl

set_option maxRecDepth 20000 in
theorem dspread_no (C k m F T : Nat) (j : Int) (A : Option Addr) (L c : Nat) (w : World) (h : Cod w C k m F T) (hj : ¬ (0 ≤ j ∧ j < (k : Int))) :
    Calls Try.prog 12 #[.pointer (some ⟨C, 0, none⟩), .int .i64 j, .slice A L c] w fun e w' => e = .returned (.tuple #[.slice none 0 0, .int .i64 2]) ∧ w' = w := by
  have hm := dmade_yes C k m F T w h
  have hd := hasData_any C k m F T j w h
  rw [withinB_f hj] at hd
  clear h hj
  go_enter Try.func12, Try.ntmps12
  go_wp2_with fail
  refine hm.mono ?_; clear hm; rintro e w1 ⟨rfl, rfl⟩
  go_wp2_with fail
  refine hd.mono ?_; clear hd; rintro e w2 ⟨rfl, rfl⟩
  go_wp2_with fail
  go_ret2
  exact ⟨rfl, rfl⟩
theorem spread_from (k j : Nat) (ch : List UInt8) (n : Nat) : fromL (fun i => ch.map (gm (facB k i j))) 0 n = spreadL k j ch n := List.map_congr_left fun i _ => by rw [Nat.zero_add]
set_option maxRecDepth 20000 in
set_option maxHeartbeats 800000 in
theorem dspread_yes (C k m F T j : Nat) (A : Option Addr) (L c : Nat) (ch : List UInt8) (w : World) (h : Cod w C k m F T) (hs : Sl w 1 A L c (cells ch)) (hL : L ≤ 1048576) (hj : j < k) :
    Calls Try.prog 12 #[.pointer (some ⟨C, 0, none⟩), .int .i64 (j : Int), .slice A L c] w fun e w' =>
      (∃ A' c', e = .returned (.tuple #[.slice A' (k + m) c', .int .i64 0]) ∧ Gr w' A' (k + m) c' (spreadL k j ch (k + m))) ∧ Below w.heap.size w w' := by
  have hm := dmade_yes C k m F T w h
  have hd := hasData_any C k m F T (j : Int) w h
  rw [withinB_t (by omega)] at hd
  have hst := Trn.start (j := j) h hs (Gr.nil w 0 (by decide))
  obtain ⟨B, hB⟩ : ∃ B, B = w.heap.size := ⟨_, rfl⟩
  have hrow := fun (w1 : World) (hT : Trn w B C k m F T j A L c ch none 0 0 [] w1) => trows_any C k m F T j 0 A L c ch none 0 0 [] w1 hT.cod hT.chg hT.par (Nat.zero_le _) 29 enters_alone (fun i => ch.map (gm (facB k i j)))
    fun W i _ hi hb => alone_any C k m F T j i A L c ch none 0 0 [] W (hT.cod.later hb) (hT.chg.below hb (Nat.le_refl _)) (hT.par.later hb) hj hi hL
  simp only [spread_from, Nat.sub_zero] at hrow
  clear h hs
  go_enter Try.func12, Try.ntmps12
  go_wp2_with fail
  refine hm.mono ?_; clear hm; rintro e w1 ⟨rfl, rfl⟩
  go_wp2_with fail
  refine hd.mono ?_; clear hd; rintro e w2 ⟨rfl, rfl⟩
  go_upto_region 6 with (fail)
  rw [← hB] at hst ⊢
  obtain ⟨w3, hw3⟩ : ∃ x, x = w2.alloc (.cells #[.pointer (some ⟨C, 0, none⟩), .int .i64 (j : Int), .slice A L c, .slice none 0 0] 83) := ⟨_, rfl⟩
  rw [← hw3] at hst ⊢
  clear hw3 hB
  have S3 := Lib.hid hst; clear hst
  have b0 := S3.out.b0
  have b1 := S3.out.b1
  have b2 := S3.out.b2
  have b3 := S3.out.b3
  go_wp2_with fail
  refine (hrow _ S3.out).mono ?_; clear hrow; rintro e w4 ⟨⟨A', c', rfl, hG, _⟩, hb4⟩
  have HG := Lib.hid hG; clear hG
  clear b0 b1 b2 b3
  go_wp2_with fail
  go_ret2
  exact ⟨⟨A', c', rfl, HG.out⟩, S3.out.bel.trans (hb4.mono S3.out.bel.size)⟩

theorem fld_one {a b : List UInt8} (h : a.length = b.length) : fld 1 a b = addL a b := by
  apply List.ext_getElem
  · rw [fld_length, addL_len]; omega
  · intro i h1 h2
    have h3 : i < b.length := by rw [fld_length] at h1; exact h1
    have e : gm 1 a[i] = a[i] := by rw [gm_comm, gm_one]
    simp [fld, addL, h3, h, UInt8.xor_comm, e]
theorem fld_add {c : UInt8} {a b : List UInt8} (h : a.length = b.length) : fld c a b = addL b (a.map (gm c)) := by
  apply List.ext_getElem
  · rw [fld_length, addL_len, List.length_map]; omega
  · intro i h1 h2
    have h3 : i < b.length := by rw [fld_length] at h1; exact h1
    simp [fld, addL, h3, h]

set_option maxRecDepth 20000 in
set_option maxHeartbeats 800000 in
theorem dupdate_no (C k m F T : Nat) (j : Int) (A0 : Option Addr) (L0 c0 : Nat) (old : List UInt8) (A1 : Option Addr) (L1 c1 : Nat) (now : List UInt8) (A : Option Addr) (n c : Nat) (par : List (List UInt8)) (w : World) (h : Cod w C k m F T)
    (hs0 : Sl w 1 A0 L0 c0 (cells old)) (hs1 : Sl w 1 A1 L1 c1 (cells now)) (hp : Gr w A n c par) (hno : ¬ UpdOk k m j old now par) :
    Calls Try.prog 14 #[.pointer (some ⟨C, 0, none⟩), .int .i64 j, .slice A0 L0 c0, .slice A1 L1 c1, .slice A n c] w fun e w' => e = .returned (.tuple #[.slice none 0 0, .int .i64 2]) ∧ Below w.heap.size w w' := by
  have hm := dmade_yes C k m F T w h
  have hd := hasData_any C k m F T j w h
  have hM := cm_any C k m F T w h
  have hf := fit_any A n c par (m : Int) L0 w hp
  have hl0 := hs0.len
  have hl1 := hs1.len
  rw [cells_length, Nat.mul_one] at hl0 hl1
  have hlp := hp.len
  by_cases hj : 0 ≤ j ∧ j < (k : Int)
  · rw [withinB_t hj] at hd
    by_cases hll : L1 = L0
    · have hz : ((L1 : Int) != (L0 : Int)) = false := by simp [hll]
      have hff : fitB par (m : Int) L0 = false := by
        rw [← Bool.not_eq_true]
        intro hh
        obtain ⟨q1, q2⟩ := fitB_ok hh
        exact hno ⟨hj, by omega, by omega, fun i hi => by rw [q2 i (by omega), hl0]⟩
      rw [hff] at hf
      have Hll := Lib.hid hll
      clear h hs0 hs1 hp hno hl0 hl1 hlp hj hff hll
      go_enter Try.func14, Try.ntmps14
      go_wp2_with fail
      refine hm.mono ?_; clear hm; rintro e w1 ⟨rfl, rfl⟩
      go_wp2_with fail
      refine hd.mono ?_; clear hd; rintro e w2 ⟨rfl, rfl⟩
      go_wp2_with fail
      refine hM.mono ?_; clear hM; rintro e w3 ⟨rfl, rfl⟩
      go_wp2_with fail
      refine hf.mono ?_; clear hf; rintro e w4 ⟨rfl, hb4⟩
      go_wp2_with fail
      go_ret2
      exact ⟨rfl, hb4⟩
    · have hz : ((L1 : Int) != (L0 : Int)) = true := by simp; omega
      have Hll := Lib.hid hll
      clear h hs0 hs1 hp hno hl0 hl1 hlp hj hf hM hll
      go_enter Try.func14, Try.ntmps14
      go_wp2_with fail
      refine hm.mono ?_; clear hm; rintro e w1 ⟨rfl, rfl⟩
      go_wp2_with fail
      refine hd.mono ?_; clear hd; rintro e w2 ⟨rfl, rfl⟩
      go_wp2_with fail
      go_ret2
      exact ⟨rfl, Below.refl _ _⟩
  · rw [withinB_f hj] at hd
    clear h hs0 hs1 hp hno hl0 hl1 hlp hj hf hM
    go_enter Try.func14, Try.ntmps14
    go_wp2_with fail
    refine hm.mono ?_; clear hm; rintro e w1 ⟨rfl, rfl⟩
    go_wp2_with fail
    refine hd.mono ?_; clear hd; rintro e w2 ⟨rfl, rfl⟩
    go_wp2_with fail
    go_ret2
    exact ⟨rfl, Below.refl _ _⟩
theorem upd_from (k j : Nat) (old now : List UInt8) (par : List (List UInt8)) (n : Nat) (hl : old.length = now.length) (hp : ∀ i, i < n → (par.getD i []).length = old.length) :
    fromL (fun i => fld (facB k i j) (addL old now) (par.getD (i - k) [])) k n = updL k j old now par n := List.map_congr_left fun i hi => by
  show fld (facB k (k + i) j) (addL old now) (par.getD (k + i - k) []) = _
  rw [show k + i - k = i from by omega]
  exact fld_add (by rw [addL_len, hp i (List.mem_range.1 hi)]; omega)
set_option maxRecDepth 20000 in
set_option maxHeartbeats 1600000 in
theorem dupdate_new (C k m F T j : Nat) (A0 : Option Addr) (L0 c0 : Nat) (old : List UInt8) (A1 : Option Addr) (L1 c1 : Nat) (now : List UInt8) (A : Option Addr) (n c : Nat) (par : List (List UInt8)) (w : World) (h : Cod w C k m F T)
    (hs0 : Sl w 1 A0 L0 c0 (cells old)) (hs1 : Sl w 1 A1 L1 c1 (cells now)) (hp : Gr w A n c par) (hL0 : L0 ≤ 1048576) (hok : UpdOk k m (j : Int) old now par) :
    Calls Try.prog 14 #[.pointer (some ⟨C, 0, none⟩), .int .i64 (j : Int), .slice A0 L0 c0, .slice A1 L1 c1, .slice A n c] w fun e w' =>
      (∃ A' c', e = .returned (.tuple #[.slice A' m c', .int .i64 0]) ∧ Gr w' A' m c' (updL k j old now par m) ∧ ∀ b o, A' = some ⟨b, o, none⟩ → w.heap.size ≤ b) ∧ Below w.heap.size w w' := by
  have hl0 := hs0.len
  have hl1 := hs1.len
  rw [cells_length, Nat.mul_one] at hl0 hl1
  have hlp := hp.len
  obtain ⟨hj, hll, hpm, hpr⟩ := hok
  have hm := dmade_yes C k m F T w h
  have hd := hasData_any C k m F T (j : Int) w h
  rw [withinB_t hj] at hd
  have hM := cm_any C k m F T w h
  have hf := fit_any A n c par (m : Int) L0 w hp
  have hff : fitB par (m : Int) L0 = true := by
    rw [fitB, decide_eq_true (by omega), decide_eq_true (fun i hi => by rw [hpr i (by omega)]; omega)]
    rfl
  rw [hff] at hf
  have hz : ((L1 : Int) != (L0 : Int)) = false := by simp; omega
  have hfl : fld 1 old now = addL old now := fld_one hll
  have hchl : (addL old now).length = L0 := by rw [addL_len]; omega
  have hup := upd_from k j old now par m hll hpr
  have hnm : n = m := by omega
  have hpl : ∀ x, x < m → (par.getD x []).length ≤ 1048576 := fun x hx => by rw [hpr x hx]; omega
  have hL1 : L1 ≤ 1073741824 := by omega
  have hjk : j < k := by omega
  have Hh := Lib.hid h
  have Hs0 := Lib.hid hs0
  have Hs1 := Lib.hid hs1
  have Hp := Lib.hid hp
  have Hfl := Lib.hid hfl
  have Hchl := Lib.hid hchl
  have Hup := Lib.hid hup
  have Hpl := Lib.hid hpl
  have Hnm := Lib.hid hnm
  clear h hs0 hs1 hp hl0 hl1 hlp hll hpm hpr hff hfl hchl hup hpl hnm hj
  go_enter Try.func14, Try.ntmps14
  go_wp2_with fail
  refine hm.mono ?_; clear hm; rintro e w1 ⟨rfl, rfl⟩
  go_wp2_with fail
  refine hd.mono ?_; clear hd; rintro e w2 ⟨rfl, rfl⟩
  go_wp2_with fail
  refine hM.mono ?_; clear hM; rintro e w3 ⟨rfl, rfl⟩
  go_wp2_with fail
  refine hf.mono ?_; clear hf; rintro e w4 ⟨rfl, hb4⟩
  have H4 := Lib.hid (Hh.out.later hb4)
  have Hb4 := Lib.hid hb4; clear hb4
  go_wp2_with fail
  refine (cf_any C k m F T _ H4.out).mono ?_; rintro e w5 ⟨rfl, rfl⟩
  go_wp2_with fail
  have hh := fold1_any F T 1 A0 L0 c0 old A1 L1 c1 now w5 H4.out.fld (Hs0.out.below Hb4.out (Nat.le_refl _)) (Hs1.out.below Hb4.out (Nat.le_refl _)) hL1
  rw [Hfl.out] at hh
  refine hh.mono ?_; clear hh; rintro e w5' ⟨Ac, Lc, cc, rfl, hsc, hb5, _⟩
  have hLc : Lc = L0 := by
    have := hsc.len
    rw [cells_length, Nat.mul_one, Hchl.out] at this
    omega
  have hLc1 : Lc ≤ 1048576 := by omega
  have hbw := Hb4.out.trans (hb5.mono Hb4.out.size)
  have hst := Trn.start (j := j) (H4.out.later hb5) hsc (Hp.out.later hbw)
  obtain ⟨B, hB⟩ : ∃ B, B = w5'.heap.size := ⟨_, rfl⟩
  have hrow := fun (W1 : World) (hT : Trn w5' B C k m F T j Ac Lc cc (addL old now) A n c par W1) => trows_any C k m F T j k Ac Lc cc (addL old now) A n c par W1 hT.cod hT.chg hT.par (by omega) 37 enters_added (fun i => fld (facB k i j) (addL old now) (par.getD (i - k) []))
    fun W i hki hi hb => added_any C k m F T j i Ac Lc cc (addL old now) A n c par W (hT.cod.later hb) (hT.chg.below hb (Nat.le_refl _)) (hT.par.later hb) hjk hki hi hLc1 Hnm.out Hpl.out
  simp only [show k + m - k = m from by omega, Hup.out] at hrow
  have Hbw := Lib.hid hbw
  clear hsc hb5 hbw hLc hLc1 H4
  go_upto_region 6 with (fail)
  rw [← hB] at hst ⊢
  obtain ⟨w6, hw6⟩ : ∃ x, x = w5'.alloc (.cells #[.pointer (some ⟨C, 0, none⟩), .int .i64 (j : Int), .slice Ac Lc cc, .slice A n c] 83) := ⟨_, rfl⟩
  rw [← hw6] at hst ⊢
  clear hw6 hB
  have S6 := Lib.hid (hst.later (Below.drew (Below.refl _ _))); clear hst
  refine wp_region_held_drew (S := fun w' => Fr (fun _ => False) w6.drew w') (by kernel_rfl) (Fr.refl _ _) (fun hHeld => ?_)
  clear hHeld
  refine wpAnyH_take (i := 0) (oi := ⟨some 45, _, _, _, _, _⟩) (v := ?vg0) rfl (by kernel_rfl) (by kernel_rfl) (by kernel_rfl) (fun _ _ _ h => h) (Or.inl ⟨by rfl, ?yg0⟩) (Fr.refl _ _) ?rg0
  case yg0 =>
    intro wq hSw
    (try dsimp only at hSw)
    have q0 := hSw.cell_some S6.out.b0 (fun h => h)
    have q1 := hSw.cell_some S6.out.b1 (fun h => h)
    have q2 := hSw.cell_some S6.out.b2 (fun h => h)
    have q3 := hSw.cell_some S6.out.b3 (fun h => h)
    first | (go_simp; done) | (go_simp; with_reducible rfl)
  try simp only [Act.put, List.setIfInBounds_toArray, List.set_cons_zero, List.set_cons_succ]
  refine wpAnyH_take (i := 1) (oi := ⟨some 46, _, _, _, _, _⟩) (v := ?vg1) rfl (by kernel_rfl) (by kernel_rfl) (by kernel_rfl) (fun _ _ _ h => h) (Or.inl ⟨by rfl, ?yg1⟩) (Fr.refl _ _) ?rg1
  case yg1 =>
    intro wq hSw
    (try dsimp only at hSw)
    first | (go_simp; done) | (go_simp; with_reducible rfl)
  try simp only [Act.put, List.setIfInBounds_toArray, List.set_cons_zero, List.set_cons_succ]
  refine wpAnyH_ready (rs := [2]) (by kernel_rfl) (by simp) ?_
  refine AllReadyH.cons (o := ⟨some 47, _, _, _, _, _⟩) rfl (fun K hK => ?_) AllReadyH.nil
  go_simp
  have hh := ck_any C k m F T w6.drew S6.out.cod
  refine hh.mono ?_; clear hh; rintro e v1 ⟨rfl, hv⟩
  have hbN : Below w6.drew.heap.size w6.drew v1 := by rw [hv]; exact Below.refl _ _
  have S7 := Lib.hid (S6.out.later hbN)
  have hfr : Fr (fun _ => False) w6.drew v1 := Fr.of_below hbN
  clear hv hbN
  go_wp2_with fail
  refine hK.out _ _ hfr (fun hHeld => ?_)
  clear hK K hHeld
  try simp only [Act.put, List.setIfInBounds_toArray, List.set_cons_zero, List.set_cons_succ]
  refine wpAnyH_re (S' := fun w' => Fr (fun _ => False) v1 w') (fun w' h => hfr.trans h) ?_
  clear hfr
  refine wpAnyH_ready (rs := [3]) (by kernel_rfl) (by simp) ?_
  refine AllReadyH.cons (o := ⟨some 48, _, _, _, _, _⟩) rfl (fun K hK => ?_) AllReadyH.nil
  go_simp
  have hh := hrow v1 S7.out
  refine hh.mono ?_; clear hh; rintro e v2 ⟨⟨A', c', rfl, hG, hnew⟩, hb8⟩
  have HG := Lib.hid hG
  have Hnew := Lib.hid (fun b o (e : A' = some ⟨b, o, none⟩) => Nat.le_trans (Nat.le_trans Hbw.out.size S7.out.bel.size) (hnew b o e))
  have Hb8 := Lib.hid (S7.out.bel.trans (hb8.mono S7.out.bel.size))
  have hfr : Fr (fun _ => False) v1 v2 := Fr.of_below hb8
  clear hG hb8 hnew
  go_wp2_with fail
  refine hK.out _ _ hfr (fun hHeld => ?_)
  clear hK K hHeld
  try simp only [Act.put, List.setIfInBounds_toArray, List.set_cons_zero, List.set_cons_succ]
  refine wpAnyH_re (S' := fun w' => Fr (fun _ => False) v2 w') (fun w' h => hfr.trans h) ?_
  clear hfr
  refine wpAnyH_take (i := 4) (oi := ⟨some 10, _, _, _, _, _⟩) (v := ?vg4) rfl (by kernel_rfl) (by kernel_rfl) (by kernel_rfl) (fun _ _ _ h => h) (Or.inl ⟨by rfl, ?yg4⟩) (Fr.refl _ _) ?rg4
  case yg4 =>
    intro wq hSw
    (try dsimp only at hSw)
    first | (go_simp; done) | (go_simp; with_reducible rfl)
  try simp only [Act.put, List.setIfInBounds_toArray, List.set_cons_zero, List.set_cons_succ]
  refine wpAnyH_take (i := 5) (oi := ⟨some 11, _, _, _, _, _⟩) (v := ?vg5) rfl (by kernel_rfl) (by kernel_rfl) (by kernel_rfl) (fun _ _ _ h => h) (Or.inl ⟨by rfl, ?yg5⟩) (Fr.refl _ _) ?rg5
  case yg5 =>
    intro wq hSw
    (try dsimp only at hSw)
    first | (go_simp; done) | (go_simp; with_reducible rfl)
  try simp only [Act.put, List.setIfInBounds_toArray, List.set_cons_zero, List.set_cons_succ]
  refine wpAnyH_done (by kernel_rfl) ?_ _
  go_wp2_with fail
  go_ret2
  exact ⟨⟨A', c', rfl, HG.out, Hnew.out⟩, Hbw.out.trans (Hb8.out.mono Hbw.out.size)⟩
theorem dupdate_yes (C k m F T j : Nat) (A0 : Option Addr) (L0 c0 : Nat) (old : List UInt8) (A1 : Option Addr) (L1 c1 : Nat) (now : List UInt8) (A : Option Addr) (n c : Nat) (par : List (List UInt8)) (w : World) (h : Cod w C k m F T)
    (hs0 : Sl w 1 A0 L0 c0 (cells old)) (hs1 : Sl w 1 A1 L1 c1 (cells now)) (hp : Gr w A n c par) (hL0 : L0 ≤ 1048576) (hok : UpdOk k m (j : Int) old now par) :
    Calls Try.prog 14 #[.pointer (some ⟨C, 0, none⟩), .int .i64 (j : Int), .slice A0 L0 c0, .slice A1 L1 c1, .slice A n c] w fun e w' =>
      (∃ A' c', e = .returned (.tuple #[.slice A' m c', .int .i64 0]) ∧ Gr w' A' m c' (updL k j old now par m)) ∧ Below w.heap.size w w' := by
  refine (dupdate_new C k m F T j A0 L0 c0 old A1 L1 c1 now A n c par w h hs0 hs1 hp hL0 hok).mono ?_
  rintro e w' ⟨⟨A', c', h1, h2, _⟩, hb⟩
  exact ⟨⟨A', c', h1, h2⟩, hb⟩
end Go.Proofs.Ytjacdabhlnfbkaa

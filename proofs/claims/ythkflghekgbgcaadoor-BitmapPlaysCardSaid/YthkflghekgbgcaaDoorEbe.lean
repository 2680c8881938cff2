/-
  Contracts of package bitmap's search over lists, whatever function is handed in, and of List and Least. Condition: the table reads as the row lists it ('Tz').
-/
import Derived.Test.YthkflghekgbgcaaDoorEbd
namespace Go.Proofs.YthkflghekgbgcaaDoor
open Go.RowKit Go.Proofs
set_option linter.unusedVariables false

theorem own_low {w : World} {B n c : Nat} {e : TypeId} {A : Option Addr} {xs : List Value} (h : w.ownsRow B e 1 (.slice A n c) n xs) (hn : 0 < n) : ∀ b o, A = some ⟨b, o, none⟩ → B ≤ b := by
  intro b o hA
  obtain ⟨g, cur, hg, hB, _⟩ := Mine.of_own h hn
  rw [hA] at hg
  injection hg with hg
  injection hg with hg _
  omega
/-- Numbers in a slice of the call's own. -/
def RetNs (w : World) (k : List Nat) (e : Ending) (w' : World) : Prop := ∃ A c, e = .returned (.slice A k.length c) ∧ Own w' w.heap.size 3 1 A k.length c (ncells k) ∧ Below w.heap.size w w' ∧ ∀ b o, A = some ⟨b, o, none⟩ → w.heap.size ≤ b
/-- What a function that is handed in does: it lays the place behind those that were found, and tells whether that is all. -/
def Lays (w : World) (g : Nat) (caps : Array Value) (st : List Nat → Bool) : Prop :=
  ∀ (W : World) (A : Option Addr) (c : Nat) (k : List Nat) (p : Nat), Below w.heap.size w W → Own W w.heap.size 3 1 A k.length c (ncells k) → k.length ≤ p → p < 65536 →
    Calls Tryd.prog g (#[.slice A k.length c, .int .i64 (p : Int)] ++ caps) W fun e w' => ∃ A' c', e = .returned (.tuple #[.slice A' (k.length + 1) c', .bool (st k)]) ∧ Own w' w.heap.size 3 1 A' (k.length + 1) c' (ncells (k ++ [p])) ∧ Below w.heap.size W w' ∧ ∀ b o, A' = some ⟨b, o, none⟩ → w.heap.size ≤ b

set_option maxRecDepth 20000 in
set_option maxHeartbeats 1600000 in
theorem list1_any (B : Nat) (A : Option Addr) (c p : Nat) (k : List Nat) (w : World) (h : Own w B 3 1 A k.length c (ncells k)) (hB : B ≤ w.heap.size) (hk : k.length ≤ 65536) :
    Calls Tryd.prog 37 #[.slice A k.length c, .int .i64 (p : Int)] w fun e w' => ∃ A' c', e = .returned (.tuple #[.slice A' (k.length + 1) c', .bool false]) ∧ Own w' B 3 1 A' (k.length + 1) c' (ncells (k ++ [p])) ∧ Below B w w' ∧ ∀ b o, A' = some ⟨b, o, none⟩ → B ≤ b := by
  have hb0 : Below w.heap.size w (w.alloc (.cells #[.int .i64 (p : Int)] 3)) := (Below.refl _ _).alloc (Nat.le_refl _) _
  have ho := h.below hb0
  have Hb0 := Lib.hid (hb0.mono hB)
  obtain ⟨q, hq⟩ : ∃ q, q = k.length := ⟨_, rfl⟩
  rw [← hq] at ho hk ⊢
  have Ho := Lib.hid ho
  clear h ho hb0 hq
  go_enter Tryd.func37, Tryd.ntmps37
  go_wp2_with (at_builtin; refine wpList_append_i (B := B) rfl (.tmp 6) (.tmp 8) rfl rfl Ho.out ?pa (some ⟨w.heap.size, 0, none⟩) 1 1 [p] rfl (Sl.oneN _ _ _ _ rfl) ?pb ?pc)
  case pa => simp; omega
  case pb => omega
  intro A3 c3 w4 ho4 hb4 hrow4
  have H4 := Lib.hid ho4
  have Hb4 := Lib.hid hb4
  have HL4 := Lib.hid (own_low hrow4 (by omega))
  clear ho4 hb4 hrow4
  go_wp2_with fail
  go_ret2
  exact ⟨A3, c3, rfl, by rw [ncells_append]; exact H4.out, Hb0.out.trans Hb4.out, HL4.out⟩

set_option maxRecDepth 20000 in
set_option maxHeartbeats 1600000 in
theorem least1_any (B : Nat) (A : Option Addr) (c p b m : Nat) (k : List Nat) (w : World) (h : Own w B 3 1 A k.length c (ncells k)) (hB : B ≤ w.heap.size) (hk : k.length ≤ 65536) (hm : w.cell? ⟨b, 0, none⟩ = some (.int .i64 (m : Int))) (hbB : b < B) :
    Calls Tryd.prog 36 #[.slice A k.length c, .int .i64 (p : Int), .pointer (some ⟨b, 0, none⟩)] w fun e w' => ∃ A' c', e = .returned (.tuple #[.slice A' (k.length + 1) c', .bool (decide (k.length + 1 = m))]) ∧ Own w' B 3 1 A' (k.length + 1) c' (ncells (k ++ [p])) ∧ Below B w w' ∧ ∀ b o, A' = some ⟨b, o, none⟩ → B ≤ b := by
  have hb0 : Below w.heap.size w (w.alloc (.cells #[.int .i64 (p : Int)] 3)) := (Below.refl _ _).alloc (Nat.le_refl _) _
  have ho := h.below hb0
  have Hb0 := Lib.hid (hb0.mono hB)
  obtain ⟨q, hq⟩ : ∃ q, q = k.length := ⟨_, rfl⟩
  rw [← hq] at ho hk ⊢
  have Ho := Lib.hid ho
  have Hm := Lib.hid hm
  have hz : ((q : Int) + 1 == (m : Int)) = decide (q + 1 = m) := by
    by_cases e : q + 1 = m
    · rw [decide_eq_true e]; simp; omega
    · rw [decide_eq_false e]; simp; omega
  obtain ⟨y, hy⟩ : ∃ y, y = decide (q + 1 = m) := ⟨_, rfl⟩
  rw [← hy] at hz ⊢
  clear h ho hb0 hq hm hy
  go_enter Tryd.func36, Tryd.ntmps36
  go_wp2_with (at_builtin; refine wpList_append_i (B := B) rfl (.tmp 7) (.tmp 9) rfl rfl Ho.out ?pa (some ⟨w.heap.size, 0, none⟩) 1 1 [p] rfl (Sl.oneN _ _ _ _ rfl) ?pb ?pc)
  case pa => simp; omega
  case pb => omega
  intro A3 c3 w4 ho4 hb4 hrow4
  have hbw := Hb0.out.trans hb4
  have hm4 : w4.cell? ⟨b, 0, none⟩ = some (.int .i64 (m : Int)) := (Fr.of_belowAt (S := fun k => B ≤ k) hbw (fun k h => h)).cell_some Hm.out (by show ¬ B ≤ b; omega)
  have H4 := Lib.hid ho4
  have Hbw := Lib.hid hbw
  have HL4 := Lib.hid (own_low hrow4 (by omega))
  clear ho4 hb4 hrow4 hbw
  go_wp2_with fail
  go_quiet (fail)
  go_wp2_with fail
  go_ret2
  exact ⟨A3, c3, by first | rfl | simp, by rw [ncells_append]; exact H4.out.below (dn12 (Below.refl _ _) _), Hbw.out.trans (dn12 (Below.refl _ _) _), HL4.out⟩

set_option maxRecDepth 20000 in
set_option maxHeartbeats 1600000 in
theorem searchl_any (g : Nat) (eg : ∀ args w, (callFunc g args).run Tryd.prog w = .ok (.enter g args) w) (caps : Array Value) (st : List Nat → Bool) (z : Int) (v : Value) (n : Nat) (f : Nat → Bool) (t : Bool) (w : World) (h : Mp w v n f) (hN : Tz w)
    (hz2 : z < 9223372036854775808) (hF : Lays w g caps st) :
    Calls Tryd.prog 35 #[v, .int .i64 z, .bool t, .slice none 0 0, .func (.func g) #[] caps] w (RetNs w (goesP (fun k p => (k ++ [p], st k)) [] (plc n z.toNat f t))) := by
  have htop := h.top
  have hnx := fun a ha W hW => next_any v n f a t W (h.keep hW) (hN.keep hW) ha
  have hwi := fun i W hW => mwithin_any v n f i W (h.keep hW)
  obtain ⟨a0, ha0⟩ : ∃ a0, a0 = z.toNat := ⟨_, rfl⟩
  have hmx : (z < 0 ∧ a0 = 0) ∨ (¬ z < 0 ∧ z = (a0 : Int)) := by omega
  have hal : a0 < 9223372036854775808 := by omega
  rw [← ha0]
  have Hf := Lib.hid hF; clear hF
  have Hn := Lib.hid hnx; clear hnx
  have Hi := Lib.hid hwi; clear hwi
  have H := Lib.hid h; clear h
  clear ha0 hN
  rcases hmx with ⟨hz, rfl⟩ | ⟨hz, rfl⟩
  all_goals
    have hzm : ¬ (0 : Int) < 0 := by omega
    go_enter Tryd.func35, Tryd.ntmps35
    go_wp2_with fail
    first | refine (Hn.out a0 hal _ (Below.refl _ _)).mono ?_ | refine (Hn.out 0 (by decide) _ (Below.refl _ _)).mono ?_
    rintro e w1 ⟨r0, rfl, hq0, hw1⟩
    obtain rfl : w = w1 := hw1.symm
    have Q0 := Lib.hid hq0; clear hq0
    go_wp2_with fail
    go_loopw [3, 11, 12, 13] (fun x i _ _ wr => ∃ (a r : Nat) (k : List Nat) (A : Option Addr) (c : Nat), x = .slice A k.length c ∧ i = .int .i64 (r : Int) ∧ k.length ≤ a ∧ a < 9223372036854775808 ∧ Nq n f a t r ∧ Below w.heap.size w wr ∧ Own wr w.heap.size 3 1 A k.length c (ncells k) ∧ (∀ b o, A = some ⟨b, o, none⟩ → w.heap.size ≤ b) ∧ goesP (fun k p => (k ++ [p], st k)) [] (plc n _ f t) = goesP (fun k p => (k ++ [p], st k)) k (plc n a f t)) (fun _ i _ _ _ => n - (intOf i).toNat)
    case atStart => exact ⟨_, r0, [], none, 0, rfl, rfl, Nat.zero_le _, by omega, Q0.out, Below.refl _ _, Own.full (Sl.nil _ 1 0 (by decide)), fun b o e => (by cases e), rfl⟩
    case round =>
      obtain ⟨a, r, k, A, c, rfl, rfl, hka, hal2, hq, hbw, hown, hlo, he⟩ := hrel
      have Q := Lib.hid hq
      have He := Lib.hid he
      have Hbw := Lib.hid hbw
      have Hown := Lib.hid hown
      have Hlo := Lib.hid hlo
      have hrl : (r : Int) < 9223372036854775808 := by have := hq.top; omega
      have hi := Hi.out (r : Int) _ hbw
      clear he hq hbw hown hlo
      by_cases hlt : r < n
      · rw [show inB n (r : Int) = true by simp [inB]; omega] at hi
        have hkr : k.length ≤ r := by have := Q.out.nx.le; omega
        have hcall := Hf.out wr A c k r Hbw.out Hown.out hkr (by omega)
        have hcons := Q.out.nx.cons hlt
        have He2 := Lib.hid (He.out.trans (by rw [hcons, goesP]))
        obtain ⟨b2, hb2⟩ : ∃ b2, b2 = st k := ⟨_, rfl⟩
        rw [← hb2] at hcall He2
        obtain ⟨q, hqk⟩ : ∃ q, q = k.length := ⟨_, rfl⟩
        rw [← hqk] at hcall hkr
        rw [← hqk]
        have Hqk := Lib.hid hqk
        clear hb2 hcons hka hqk
        cases b2
        · go_wp2_with fail
          refine hi.mono ?_; clear hi; rintro e w2 ⟨rfl, hw2⟩
          obtain rfl : wr = w2 := hw2.symm
          go_wp2_with fail
          refine hcall.mono ?_; clear hcall; rintro e w3 ⟨A3, c3, rfl, ho3, hb3, hl3⟩
          have hbw3 := Hbw.out.trans hb3
          have hnext := Hn.out (r + 1) (by omega) w3 hbw3
          have Ho3 := Lib.hid ho3
          have Hl3 := Lib.hid hl3
          have Hb3 := Lib.hid hbw3
          clear ho3 hb3 hbw3 hl3
          go_wp2_with fail
          refine hnext.mono ?_; clear hnext; rintro e w4 ⟨r4, rfl, hq4, hw4⟩
          obtain rfl : w3 = w4 := hw4.symm
          have hle4 := hq4.nx.le
          have Q4 := Lib.hid hq4; clear hq4
          go_wp2_with fail
          go_roundw
          case rel => exact ⟨r + 1, r4, k ++ [r], A3, c3, by rw [List.length_append, List.length_singleton, ← Hqk.out], rfl, by rw [List.length_append, List.length_singleton, ← Hqk.out]; omega, by omega, Q4.out, Hb3.out, by rw [List.length_append, List.length_singleton, ← Hqk.out]; exact Ho3.out, Hl3.out, He2.out⟩
          case measure => simp [intOf]; omega
        · go_wp2_with fail
          refine hi.mono ?_; clear hi; rintro e w2 ⟨rfl, hw2⟩
          obtain rfl : wr = w2 := hw2.symm
          go_wp2_with fail
          refine hcall.mono ?_; clear hcall; rintro e w3 ⟨A3, c3, rfl, ho3, hb3, hl3⟩
          have Ho3 := Lib.hid ho3
          have Hl3 := Lib.hid hl3
          have Hb3 := Lib.hid (Hbw.out.trans hb3)
          clear ho3 hb3 hl3
          go_wp2_with fail
          go_ret
          have hres := He2.out
          simp only [if_true] at hres
          refine ⟨A3, c3, ?_, ?_, Hb3.out, Hl3.out⟩
          · rw [hres]
            simp [← Hqk.out]
          · rw [hres, List.length_append, List.length_singleton, ← Hqk.out]
            exact Ho3.out
      · rw [show inB n (r : Int) = false by simp [inB]; omega] at hi
        have hnil := Q.out.nx.nil (by omega)
        have He2 := Lib.hid (He.out.trans (by rw [hnil]))
        go_wp2_with fail
        refine hi.mono ?_; clear hi; rintro e w2 ⟨rfl, hw2⟩
        obtain rfl : wr = w2 := hw2.symm
        go_wp2_with fail
        go_ret
        have hres := He2.out
        exact ⟨A, c, by rw [hres]; rfl, by rw [hres]; exact Hown.out, Hbw.out, Hlo.out⟩

set_option maxRecDepth 20000 in
theorem list_any (v : Value) (n : Nat) (f : Nat → Bool) (w : World) (h : Mp w v n f) (hN : Tz w) :
    Calls Tryd.prog 22 #[v] w (RetNs w (plc n 0 f true)) := by
  have hh := searchl_any 37 (enters_of Tryd.func37 (by kernel_rfl) rfl) #[] (fun _ => false) 0 v n f true w h hN (by decide) (fun W A c k p hb ho hk hp => list1_any _ A c p k W ho hb.size (by omega))
  rw [goes_list, List.nil_append] at hh
  obtain ⟨y, hy⟩ : ∃ y, y = plc n (0 : Int).toNat f true := ⟨_, rfl⟩
  have hy2 : plc n 0 f true = y := hy.symm
  rw [← hy] at hh
  rw [hy2]
  clear h hN hy hy2
  go_enter Tryd.func22, Tryd.ntmps22
  go_wp2_with fail
  refine hh.mono ?_; rintro e w1 ⟨A, c, rfl, ho, hb, hl⟩
  have Ho := Lib.hid ho
  have Hb := Lib.hid hb
  have Hl := Lib.hid hl
  clear ho hb hl
  go_wp2_with fail
  go_ret
  exact ⟨A, c, rfl, Ho.out, Hb.out, Hl.out⟩
/-- The least so many places that aren't taken; nothing, if there are fewer. -/
def leastL (m : Nat) (l : List Nat) : List Nat := if m ≤ l.length then l.take m else []
set_option maxRecDepth 20000 in
set_option maxHeartbeats 800000 in
theorem least_any (v : Value) (n : Nat) (f : Nat → Bool) (m : Nat) (hm : 1 ≤ m) (hm63 : m < 9223372036854775808) (w : World) (h : Mp w v n f) (hN : Tz w) :
    Calls Tryd.prog 20 #[v, .int .i64 (m : Int)] w (RetNs w (leastL m (plc n 0 f false))) := by
  have hbx : Below w.heap.size w (w.alloc (.cells #[.int .i64 (m : Int)] 3)) := (Below.refl _ _).alloc (Nat.le_refl _) _
  obtain ⟨wb, hwb⟩ : ∃ x, x = w.alloc (.cells #[.int .i64 (m : Int)] 3) := ⟨_, rfl⟩
  have hcb : wb.cell? ⟨w.heap.size, 0, none⟩ = some (.int .i64 (m : Int)) := by rw [hwb]; exact cell_of_one (heap_alloc_new w _)
  have hsz : wb.heap.size = w.heap.size + 1 := by rw [hwb]; simp
  rw [← hwb] at hbx
  have hh := searchl_any 36 (enters_of Tryd.func36 (by kernel_rfl) rfl) #[.pointer (some ⟨w.heap.size, 0, none⟩)] (fun k => decide (k.length + 1 = m)) 0 v n f false wb (h.keep hbx) (hN.keep hbx) (by decide) (fun W A c k p hb ho hk hp => by
    refine least1_any _ A c p w.heap.size m k W ho hb.size (by omega) ?_ (by omega)
    exact (hb.cell (p := ⟨w.heap.size, 0, none⟩) (by show w.heap.size < _; omega)).trans hcb)
  have hk := goes_least m (plc n 0 f false) [] (by simp; omega)
  rw [List.nil_append, List.length_nil, Nat.sub_zero] at hk
  have hk2 : goesP (fun k p => (k ++ [p], (fun k => decide (k.length + 1 = m)) k)) [] (plc n (0 : Int).toNat f false) = (plc n 0 f false).take m := hk
  rw [hk2] at hh
  obtain ⟨y, hy⟩ : ∃ y, y = (plc n 0 f false).take m := ⟨_, rfl⟩
  have hle : leastL m (plc n 0 f false) = if m ≤ y.length then y else [] := by
    rw [leastL, hy, List.length_take]
    by_cases e : m ≤ (plc n 0 f false).length
    · rw [if_pos e, if_pos (by omega)]
    · rw [if_neg e, if_neg (by omega)]
  have hyl : y.length ≤ 65536 := by
    rw [hy, List.length_take]
    have h1 : (plc n 0 f false).length ≤ n := plc_len_le
    have := h.top
    omega
  rw [← hy] at hh
  rw [hle]
  have Hbx := Lib.hid hbx
  have Hcb := Lib.hid hcb
  have hm1 : ¬ (m : Int) < 1 := by omega
  obtain ⟨q, hq⟩ : ∃ q, q = y.length := ⟨_, rfl⟩
  have hq2 : y.length = q := hq.symm
  unfold RetNs at hh
  rw [hq2] at hh hyl ⊢
  have Hq := Lib.hid hq
  have Hsz := Lib.hid hsz
  subst hwb
  clear hk hk2 hle h hN hbx hcb hy hq hq2 hsz
  by_cases hlt : m ≤ q
  · have hl : ¬ (q : Int) < (m : Int) := by omega
    rw [if_pos hlt]
    clear hlt hm
    go_enter Tryd.func20, Tryd.ntmps20
    go_wp2_with fail
    refine hh.mono ?_; clear hh; rintro e w1 ⟨A, c, rfl, ho, hb, hl⟩
    have hcm : w1.cell? ⟨w.heap.size, 0, none⟩ = some (.int .i64 (m : Int)) := (hb.cell (p := ⟨w.heap.size, 0, none⟩) (by show w.heap.size < _; have := Hsz.out; omega)).trans Hcb.out
    have Ho := Lib.hid (ho.lower (B' := w.heap.size) (by have := Hsz.out; omega))
    have Hb := Lib.hid (Hbx.out.trans (hb.mono (by have := Hsz.out; omega)))
    have Hl := Lib.hid (show ∀ b o, A = some ⟨b, o, none⟩ → w.heap.size ≤ b from fun b o e => by have := hl b o e; have := Hsz.out; omega)
    clear ho hb hl
    go_wp2_with fail
    go_ret
    exact ⟨A, c, by rw [← Hq.out]; rfl, by rw [← Hq.out]; exact Ho.out, Hb.out, Hl.out⟩
  · have hl : (q : Int) < (m : Int) := by omega
    rw [if_neg hlt]
    clear hlt hm
    go_enter Tryd.func20, Tryd.ntmps20
    go_wp2_with fail
    refine hh.mono ?_; clear hh; rintro e w1 ⟨A, c, rfl, ho, hb, hl⟩
    have hcm : w1.cell? ⟨w.heap.size, 0, none⟩ = some (.int .i64 (m : Int)) := (hb.cell (p := ⟨w.heap.size, 0, none⟩) (by show w.heap.size < _; have := Hsz.out; omega)).trans Hcb.out
    have Hb := Lib.hid (Hbx.out.trans (hb.mono (by have := Hsz.out; omega)))
    have Hl := Lib.hid (show ∀ b o, A = some ⟨b, o, none⟩ → w.heap.size ≤ b from fun b o e => by have := hl b o e; have := Hsz.out; omega)
    clear ho hb hl
    go_wp2_with fail
    go_ret
    exact ⟨none, 0, rfl, Own.full (Sl.nil _ 1 0 (by decide)), Hb.out, fun b o e => (by cases e)⟩
set_option maxRecDepth 20000 in
theorem least_no (v : Value) (z : Int) (hz : z < 1) (w : World) :
    Calls Tryd.prog 20 #[v, .int .i64 z] w (RetNs w []) := by
  have Hbx := Lib.hid (show Below w.heap.size w (w.alloc (.cells #[.int .i64 z] 3)) from (Below.refl _ _).alloc (Nat.le_refl _) _)
  go_enter Tryd.func20, Tryd.ntmps20
  go_wp2_with fail
  go_ret
  exact ⟨none, 0, rfl, Own.full (Sl.nil _ 1 0 (by decide)), Hbx.out, fun b o e => (by cases e)⟩
end Go.Proofs.YthkflghekgbgcaaDoor

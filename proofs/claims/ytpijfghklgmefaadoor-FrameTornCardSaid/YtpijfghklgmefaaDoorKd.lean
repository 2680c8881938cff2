/-
  Plain mathematics of numbers in groups of seven bits: what is put is read, and what is read and put again are the bytes that were read. No program, no condition.
  Contracts of package num's Var and of the document's answer Var: both answer 'varR'.
  The contract of the document's answer Var: it answers 'varR'.
  Contracts of package num's putLong, PutText, PutBytes, long, Text, Bytes and of the document's answers PutText, Text. Condition: slices and texts together shorter than 2^47 less 40.
  Contracts of package num's long, Text, Bytes and of the document's answer Text: all answer 'longR'.
  Contracts of package num's Text and Bytes and of the document's answer Text: all answer 'longR'.
  Package num's Get and the document's at any place and any width: both answer 'getN16'. No condition.
  append(b, make([]byte, k)...), which is one call with a number; slices.Grow of no bytes. Condition: fewer than a million bytes.
-/
import Derived.Test.YtpijfghklgmefaaDoorKa
import Derived.Test.YtpijfghklgmefaaDoorKc
import Derived.Deep.DeepCutAuto
import Derived.IntWalk
namespace Go.Proofs.YtpijfghklgmefaaDoor

theorem pow7 (i : Nat) : 2 ^ (7 * (i + 1)) = 128 * 2 ^ (7 * i) := by rw [Nat.mul_add, Nat.pow_add, Nat.mul_comm]

theorem vdec_venc : ∀ (f i acc y : Nat) (r : List UInt8), i + f = 9 → acc + y * 2 ^ (7 * i) < 2 ^ 64 → (i = 0 ∨ y ≠ 0) →
    vdec i acc (venc f y ++ r) = (acc + y * 2 ^ (7 * i), i + (venc f y).length, 0) := by
  intro f
  induction f with
  | zero =>
    intro i acc y r hi hb h0
    obtain rfl : i = 9 := by omega
    have hy : y ≤ 1 := by omega
    have hu : (UInt8.ofNat y).toNat = y := by rw [UInt8.toNat_ofNat']; omega
    rw [venc, List.singleton_append, vdec, hu, if_neg (by omega), if_pos (by omega), Nat.mod_eq_of_lt (by omega)]
    rfl
  | succ f ih =>
    intro i acc y r hi hb h0
    by_cases hy : y < 128
    · have hu : (UInt8.ofNat y).toNat = y := by rw [UInt8.toNat_ofNat']; omega
      rw [venc_small _ _ hy, List.singleton_append, vdec, hu, if_neg (by omega), if_pos hy, Nat.mod_eq_of_lt hy]
      rfl
    · have hu : (UInt8.ofNat (y % 128 + 128)).toNat = y % 128 + 128 := by rw [UInt8.toNat_ofNat']; omega
      have hm : (y % 128 + 128) % 128 = y % 128 := by omega
      have hs : acc + y % 128 * 2 ^ (7 * i) + y / 128 * 2 ^ (7 * (i + 1)) = acc + y * 2 ^ (7 * i) := by
        rw [pow7, ← Nat.mul_assoc, Nat.add_assoc, ← Nat.add_mul]
        congr 2
        omega
      rw [venc_more _ _ hy, List.cons_append, vdec, hu, if_neg (by omega), if_neg (by omega), hm, ih (i + 1) _ (y / 128) r (by omega) (by rw [hs]; exact hb) (by omega), hs]
      simp only [List.length_cons]
      congr 2
      omega

theorem vdec_ok : ∀ (l : List UInt8) (i acc n p : Nat), vdec i acc l = (n, p, 0) → i ≤ 9 → acc < 2 ^ (7 * i) →
    i < p ∧ p ≤ i + l.length ∧ n < 2 ^ 64 ∧ ∃ y, n = acc + y * 2 ^ (7 * i) ∧ venc (9 - i) y = l.take (p - i) ∧ (i = 0 ∨ y ≠ 0) := by
  intro l
  induction l with
  | nil => intro i acc n p h; simp [vdec] at h
  | cons u r ih =>
    intro i acc n p h hi ha
    rw [vdec] at h
    by_cases hbad : (i = 9 ∧ 1 < u.toNat) ∨ (0 < i ∧ u.toNat = 0)
    · rw [if_pos hbad] at h
      simp at h
    rw [if_neg hbad] at h
    have hor := or_seven acc (u.toNat % 128) i ha (by omega) (by omega)
    by_cases hu : u.toNat < 128
    · rw [if_pos hu] at h
      simp only [Prod.mk.injEq] at h
      obtain ⟨rfl, rfl, -⟩ := h
      refine ⟨by omega, by simp, hor.2.2, u.toNat, by rw [Nat.mod_eq_of_lt hu], ?_, by omega⟩
      rw [venc_small _ _ hu, show i + 1 - i = 1 from by omega]
      simp
    · rw [if_neg hu] at h
      have hi9 : i ≠ 9 := by omega
      obtain ⟨h1, h2, h3, y, h4, h5, h6⟩ := ih (i + 1) _ n p h (by omega) hor.2.1
      have hul := u.toNat_lt
      refine ⟨by omega, by simp; omega, h3, u.toNat % 128 + 128 * y, ?_, ?_, by omega⟩
      · rw [h4, pow7, Nat.add_mul, ← Nat.mul_assoc, Nat.mul_comm y 128, Nat.add_assoc]
      · rw [show 9 - i = (9 - (i + 1)) + 1 from by omega, venc_more _ _ (by omega), show (u.toNat % 128 + 128 * y) / 128 = y from by omega, h5, show p - i = (p - (i + 1)) + 1 from by omega, List.take_succ_cons]
        congr 1
        rw [show (u.toNat % 128 + 128 * y) % 128 + 128 = u.toNat from by omega]
        simp

/-- What Var answers where it answers no error. -/
theorem varR_ok {l : List UInt8} {at_ : Int} (h : (varR l at_).2.2 = 0) :
    ∃ a : Nat, at_ = a ∧ a < (varR l at_).2.1 ∧ (varR l at_).2.1 ≤ l.length ∧ (varR l at_).1 < 2 ^ 64 ∧ venc 9 (varR l at_).1 = (l.drop a).take ((varR l at_).2.1 - a) := by
  unfold varR at h ⊢
  by_cases hin : 0 ≤ at_ ∧ at_ ≤ l.length
  · rw [if_pos hin] at h ⊢
    obtain ⟨a, rfl⟩ := Int.eq_ofNat_of_zero_le hin.1
    rw [Int.toNat_natCast] at h ⊢
    by_cases he : (vdec 0 0 (l.drop a)).2.2 = 0
    · rw [if_pos he]
      obtain ⟨h1, h2, h3, y, h4, h5, -⟩ := vdec_ok (l.drop a) 0 0 (vdec 0 0 (l.drop a)).1 (vdec 0 0 (l.drop a)).2.1 (Prod.ext rfl (Prod.ext rfl he)) (by omega) (by omega)
      rw [List.length_drop] at h2
      simp only [Nat.mul_zero, Nat.pow_zero, Nat.mul_one, Nat.zero_add, Nat.sub_zero] at h4 h5
      refine ⟨a, rfl, by show a < a + _; omega, by show a + _ ≤ _; omega, h3, ?_⟩
      show venc 9 (vdec 0 0 (l.drop a)).1 = (l.drop a).take (a + _ - a)
      rw [h4, Nat.add_sub_cancel_left]
      exact h5
    · rw [if_neg he] at h
      exact absurd h he
  · rw [if_neg hin] at h
    simp at h

/-- What Text and Bytes answer: the bytes, the place behind them, the error. -/
def longR (l : List UInt8) (at_ most : Int) : List UInt8 × Nat × Nat :=
  if (varR l at_).2.2 ≠ 0 then ([], 0, (varR l at_).2.2)
  else if max most 0 < ((varR l at_).1 : Int) then ([], 0, 6)
  else if l.length - (varR l at_).2.1 < (varR l at_).1 then ([], 0, 5)
  else ((l.drop (varR l at_).2.1).take (varR l at_).1, (varR l at_).2.1 + (varR l at_).1, 0)

/-- A number that was put is read. -/
theorem varR_venc (p r : List UInt8) (n : Nat) (hn : n < 2 ^ 64) : varR (p ++ venc 9 n ++ r) (p.length : Nat) = (n, p.length + (venc 9 n).length, 0) := by
  have h := vdec_venc 9 0 0 n r rfl (by omega) (.inl rfl)
  simp only [Nat.mul_zero, Nat.pow_zero, Nat.mul_one, Nat.zero_add] at h
  rw [varR_in _ p.length (by simp) n (venc 9 n).length 0 (by rw [List.append_assoc, List.drop_left]; exact h), if_pos rfl]
end Go.Proofs.YtpijfghklgmefaaDoor

namespace Go.Proofs.YtpijfghklgmefaaDoor
open Go.RowKit
set_option linter.unusedVariables false

set_option maxHeartbeats 1000000 in
set_option maxRecDepth 20000 in
theorem var_in (A : Option Addr) (n c : Nat) (l : List UInt8) (a : Nat) (w : World) (h : Sl w 1 A n c (cells l)) (ha : a ≤ n) :
    Calls Tryd.prog 29 #[.slice A n c, .int .i64 (a : Int)] w fun e w' => e = .returned (.tuple #[.int .u64 ((varR l a).1 : Nat), .int .i64 ((varR l a).2.1 : Nat), .int .i64 ((varR l a).2.2 : Nat)]) ∧ w = w' := by
  have hn := h.lim
  have hn' := hn
  unfold maxLen at hn'
  have hcap := h.cap
  have hlen0 := h.len
  rw [cells_length, Nat.mul_one] at hlen0
  have Hl := Lib.hid hlen0; clear hlen0
  by_cases han : a = n
  · have hz : varR l (a : Int) = (0, 0, 5) := by
      rw [varR_in l a (by rw [Hl.out]; omega) 0 0 5 (by rw [List.drop_of_length_le (by rw [Hl.out]; omega)]; rfl)]
      rfl
    rw [hz]
    clear hz
    obtain rfl : n = a := by omega
    by_cases hca : c = n
    · obtain rfl : c = n := by omega
      go_enter Tryd.func29, Tryd.ntmps29
      go_wp2_with fail
      refine (inside_yes A c c (c : Int) hn (by omega) (by omega) _).mono ?_; rintro e w' ⟨rfl, rfl⟩
      go_wp2_with fail
      go_loop [18] (fun i => i = .int .i64 0) (fun _ => 0)
      case atStart => rfl
      case round =>
        obtain rfl := hrel
        go_wp2_with fail
        go_ret3
        exact ⟨rfl, rfl⟩
    · go_enter Tryd.func29, Tryd.ntmps29
      go_wp2_with fail
      refine (inside_yes A n c (n : Int) hn (by omega) (by omega) _).mono ?_; rintro e w' ⟨rfl, rfl⟩
      go_wp2_with fail
      go_loop [18] (fun i => i = .int .i64 0) (fun _ => 0)
      case atStart => rfl
      case round =>
        obtain rfl := hrel
        go_wp2_with fail
        go_ret3
        exact ⟨rfl, rfl⟩
  · obtain ⟨b, o, rfl, hc⟩ := h.at_ (k := 0) (by omega)
    have hca : ¬ c = a := by omega
    go_enter Tryd.func29, Tryd.ntmps29
    go_wp2_with fail
    refine (inside_yes _ n c (a : Int) hn (by omega) (by omega) _).mono ?_; rintro e w' ⟨rfl, rfl⟩
    go_wp2_with fail
    go_loop [7, 18] (fun v i => ∃ (k y : Nat), k ≤ n - a ∧ k ≤ 9 ∧ i = .int .i64 (k : Int) ∧ v = .int .u64 (y : Int) ∧ y < 2 ^ (7 * k) ∧ y < 2 ^ 64 ∧ vdec 0 0 (l.drop a) = vdec k y (l.drop (a + k))) (fun _ i => n - a - (intOf i).toNat)
    case atStart => exact ⟨0, 0, by omega, by omega, rfl, rfl, by omega, by omega, rfl⟩
    case round =>
      obtain ⟨k, y, hk, hk9, rfl, rfl, hy, hy64, hv⟩ := hrel
      by_cases hlt : k < n - a
      · obtain ⟨u, hu⟩ : ∃ u, l[a + k]? = some u := ⟨_, List.getElem?_eq_getElem (by rw [Hl.out]; omega)⟩
        have hcell : w.cell? ⟨b, o + a + k, none⟩ = some (.int .u8 (u.toNat : Int)) := by rw [Nat.add_assoc]; exact hc _ _ (by simp [cells, hu, bv])
        have hd : l.drop (a + k) = u :: l.drop (a + (k + 1)) := by
          have hlt' : a + k < l.length := by rw [Hl.out]; omega
          rw [List.drop_eq_getElem_cons hlt', Nat.add_assoc]
          rw [List.getElem?_eq_getElem hlt'] at hu
          injection hu with hu
          rw [hu]
        rw [hd] at hv
        have Hv := Lib.hid hv; clear hv
        have Hy := Lib.hid hy; clear hy
        clear hd hu
        have hub := u.toNat_lt
        generalize hx : u.toNat = x at *
        have Hx := Lib.hid hx; clear hx
        have hend : ∀ e, vdec k y (u :: l.drop (a + (k + 1))) = (0, 0, e + 1) → varR l (a : Int) = (0, 0, e + 1) := fun e he => by
          rw [varR_in l a (by rw [Hl.out]; omega) 0 0 (e + 1) (Hv.out.trans he)]
          rfl
        have Hend := Lib.hid hend; clear hend
        by_cases h9 : k = 9 ∧ 1 < x
        · obtain ⟨rfl, h1⟩ := h9
          have Hz := Lib.hid (Hend.out 2 (by rw [vdec, Hx.out, if_pos (Or.inl ⟨rfl, h1⟩)]))
          have h1' : (x : Int) > 1 := by omega
          go_wp2_with fail
          go_ret3
          rw [Hz.out]
          exact ⟨rfl, rfl⟩
        · by_cases h0 : 0 < k ∧ x = 0
          · obtain ⟨h0, rfl⟩ := h0
            have Hz := Lib.hid (Hend.out 2 (by rw [vdec, Hx.out, if_pos (Or.inr ⟨h0, rfl⟩)]))
            clear h9
            by_cases hk9' : k = 9
            · obtain rfl : k = 9 := hk9'
              go_wp2_with fail
              go_ret3
              rw [Hz.out]
              exact ⟨rfl, rfl⟩
            · have h9f : ((k : Int) == 9) = false := by simp; omega
              clear hk9'
              go_wp2_with fail
              go_ret3
              rw [Hz.out]
              exact ⟨rfl, rfl⟩
          · have hno : ¬ ((k = 9 ∧ 1 < x) ∨ (0 < k ∧ x = 0)) := fun h' => h'.elim h9 h0
            obtain ⟨ho1, ho2, ho3⟩ := or_seven_mod y x k Hy.out (by omega)
            have Ho1 := Lib.hid ho1; clear ho1
            have Ho2 := Lib.hid ho2; clear ho2
            have Ho3 := Lib.hid ho3; clear ho3
            have Hno := Lib.hid hno; clear hno
            by_cases hx128 : x < 128
            · have Hz : Hid (varR l (a : Int) = (y + x % 128 * 2 ^ (7 * k), a + (k + 1), 0)) := Lib.hid (by
                rw [varR_in l a (by rw [Hl.out]; omega) _ _ 0 (Hv.out.trans (by rw [vdec, Hx.out, if_neg Hno.out, if_pos hx128]))]
                rfl)
              by_cases hk9' : k = 9
              · have h9t : ((k : Int) == 9) = true := by simp; omega
                have h1' : ¬ (x : Int) > 1 := by omega
                have h0' : ((x : Int) == 0) = false := by simp; omega
                have hk0 : 0 < k := by omega
                clear h9 h0 hk9'
                go_wp2_with fail
                go_ret3
                rw [Hz.out]
                exact ⟨ret3_eq Ho1.out (by show (a : Int) + k + 1 = ((a + (k + 1) : Nat) : Int); omega) rfl, rfl⟩
              · have h9f : ((k : Int) == 9) = false := by simp; omega
                clear h9 hk9'
                by_cases hk0 : 0 < k
                · have h0' : ((x : Int) == 0) = false := by simp; omega
                  clear h0
                  go_wp2_with fail
                  go_ret3
                  rw [Hz.out]
                  exact ⟨ret3_eq Ho1.out (by show (a : Int) + k + 1 = ((a + (k + 1) : Nat) : Int); omega) rfl, rfl⟩
                · clear h0
                  go_wp2_with fail
                  go_ret3
                  rw [Hz.out]
                  exact ⟨ret3_eq Ho1.out (by show (a : Int) + k + 1 = ((a + (k + 1) : Nat) : Int); omega) rfl, rfl⟩
            · have Hz : Hid (vdec 0 0 (l.drop a) = vdec (k + 1) (y + x % 128 * 2 ^ (7 * k)) (l.drop (a + (k + 1)))) := Lib.hid (by
                rw [Hv.out, vdec, Hx.out, if_neg Hno.out, if_neg hx128])
              have h9f : ((k : Int) == 9) = false := by simp; omega
              have hk8 : k < 9 := by omega
              clear h9
              by_cases hk0 : 0 < k
              · have h0' : ((x : Int) == 0) = false := by simp; omega
                clear h0
                go_wp2_with fail
                go_round
                case rel => exact ⟨k + 1, y + x % 128 * 2 ^ (7 * k), by omega, by omega, by go_num, by rw [Ho1.out], Ho2.out, Ho3.out, Hz.out⟩
                case measure => simp [intOf]; omega
              · clear h0
                go_wp2_with fail
                go_round
                case rel => exact ⟨k + 1, y + x % 128 * 2 ^ (7 * k), by omega, by omega, by go_num, by rw [Ho1.out], Ho2.out, Ho3.out, Hz.out⟩
                case measure => simp [intOf]; omega
      · have Hz : Hid (varR l (a : Int) = (0, 0, 5)) := Lib.hid (by
          rw [varR_in l a (by rw [Hl.out]; omega) 0 0 5 (by rw [hv, List.drop_of_length_le (by rw [Hl.out]; omega)]; rfl)]
          rfl)
        clear hv
        go_wp2_with fail
        go_ret3
        rw [Hz.out]
        exact ⟨rfl, rfl⟩

set_option maxHeartbeats 400000 in
theorem var_out (A : Option Addr) (n c : Nat) (l : List UInt8) (at_ : Int) (w : World) (h : Sl w 1 A n c (cells l)) (ha : ¬ (0 ≤ at_ ∧ at_ ≤ n)) :
    Calls Tryd.prog 29 #[.slice A n c, .int .i64 at_] w fun e w' => e = .returned (.tuple #[.int .u64 ((varR l at_).1 : Nat), .int .i64 ((varR l at_).2.1 : Nat), .int .i64 ((varR l at_).2.2 : Nat)]) ∧ w = w' := by
  have hn := h.lim
  have hl := h.len
  rw [cells_length, Nat.mul_one] at hl
  rw [varR_out l at_ (by rw [hl]; exact ha)]
  have Ha := Lib.hid ha; clear ha hl
  go_enter Tryd.func29, Tryd.ntmps29
  go_wp2_with fail
  refine (inside_no A n c at_ hn Ha.out _).mono ?_; rintro e w' ⟨rfl, rfl⟩
  go_wp2_with fail
  go_ret3
  exact ⟨rfl, rfl⟩

theorem var_any (A : Option Addr) (n c : Nat) (l : List UInt8) (at_ : Int) (w : World) (h : Sl w 1 A n c (cells l)) :
    Calls Tryd.prog 29 #[.slice A n c, .int .i64 at_] w fun e w' => e = .returned (.tuple #[.int .u64 ((varR l at_).1 : Nat), .int .i64 ((varR l at_).2.1 : Nat), .int .i64 ((varR l at_).2.2 : Nat)]) ∧ w = w' := by
  by_cases ha : 0 ≤ at_ ∧ at_ ≤ n
  · obtain ⟨a, rfl⟩ := Int.eq_ofNat_of_zero_le ha.1
    exact var_in A n c l a w h (by omega)
  · exact var_out A n c l at_ w h ha
end Go.Proofs.YtpijfghklgmefaaDoor

namespace Go.Proofs.YtpijfghklgmefaaDoor
open Go.RowKit
set_option linter.unusedVariables false

end Go.Proofs.YtpijfghklgmefaaDoor

namespace Go.Proofs.YtpijfghklgmefaaDoor
open Go.RowKit
set_option linter.unusedVariables false

set_option maxHeartbeats 400000 in
theorem putLongS_any (A : Option Addr) (n c : Nat) (l : List UInt8) (t : ByteArray) (w : World) (h : Sl w 1 A n c (cells l)) (h47 : n + t.size ≤ 140737488355200) :
    Calls Tryd.prog 46 #[.slice A n c, .string t] w (RetBytes w.heap.size w (l ++ venc 9 t.size ++ t.data.toList)) := by
  go_enter Tryd.func46, Tryd.ntmps46
  go_wp2_with fail
  refine (cut_any A n c h.cap h.top _).mono ?_; rintro e w' ⟨rfl, rfl⟩
  go_wp2_with fail
  refine (appendVar_any A n n w.heap.size l t.size _ (Own.full (h.recap (Nat.le_refl _) h.lim)) (Nat.le_refl _) (by omega) (by omega)).mono ?_; rintro e w1 ⟨A1, n1, c1, rfl, h1, hb⟩
  have hl1 : n1 ≤ n + 10 := by
    have a := h1.sl.len
    have b := h.len
    have d := venc_length 9 t.size
    rw [cells_length, List.length_append] at a
    rw [cells_length] at b
    omega
  have hz := hb.size
  go_wp2_with (at_builtin; refine wpList_append_s (B := w.heap.size) rfl (.tmp 10) (.tmp 11) rfl rfl h1 hz t rfl ?c3 ?c4)
  case c3 => omega
  intro A2 c2 w2 ho2 hb2
  go_wp2_with fail
  refine (cut_any A2 (n1 + t.size) c2 ho2.sl.cap ho2.sl.top _).mono ?_; rintro e w' ⟨rfl, rfl⟩
  go_wp2_with fail
  go_ret
  exact ⟨A2, n1 + t.size, n1 + t.size, rfl, by rw [cells_append (l ++ venc 9 t.size)]; exact ho2.sl.recap (Nat.le_refl _) ho2.sl.lim, hb.trans hb2⟩

set_option maxHeartbeats 400000 in
theorem putText_any (A : Option Addr) (n c : Nat) (l : List UInt8) (t : ByteArray) (w : World) (h : Sl w 1 A n c (cells l)) (h47 : n + t.size ≤ 140737488355200) :
    Calls Tryd.prog 21 #[.slice A n c, .string t] w (RetBytes w.heap.size w (l ++ venc 9 t.size ++ t.data.toList)) := by
  go_enter Tryd.func21, Tryd.ntmps21
  go_wp2_with fail
  refine (putLongS_any A n c l t _ h h47).mono ?_; rintro e w1 ⟨A1, n1, c1, rfl, h1, hb⟩
  go_wp2_with fail
  go_ret
  exact ⟨A1, n1, c1, rfl, h1, hb⟩

end Go.Proofs.YtpijfghklgmefaaDoor

namespace Go.Proofs.YtpijfghklgmefaaDoor
open Go.RowKit
set_option linter.unusedVariables false

theorem var_eq (A : Option Addr) (n c : Nat) (l : List UInt8) (at_ : Int) (w : World) (h : Sl w 1 A n c (cells l)) {n0 p0 e0 : Nat} (hv : varR l at_ = (n0, p0, e0)) :
    Calls Tryd.prog 29 #[.slice A n c, .int .i64 at_] w fun e w' => e = .returned (.tuple #[.int .u64 (n0 : Int), .int .i64 (p0 : Int), .int .i64 (e0 : Int)]) ∧ w = w' := by
  have := var_any A n c l at_ w h
  rw [hv] at this
  exact this
theorem ret3s_eq {v v' : Value} {k2 k3 : IntKind} {b c b' c' : Int} (h1 : v = v') (h2 : b = b') (h3 : c = c') : Ending.returned (.tuple #[v, .int k2 b, .int k3 c]) = Ending.returned (.tuple #[v', .int k2 b', .int k3 c']) := by rw [h1, h2, h3]

/-- What long answers. -/
def RetLong (w : World) (r : List UInt8 × Nat × Nat) (e : Ending) (w' : World) : Prop :=
  ∃ A n c, e = .returned (.tuple #[.slice A n c, .int .i64 (r.2.1 : Int), .int .i64 (r.2.2 : Int)]) ∧ Sl w 1 A n c (cells r.1) ∧ w = w'

set_option maxHeartbeats 400000 in
set_option maxRecDepth 20000 in
theorem long_any (A : Option Addr) (n c : Nat) (l : List UInt8) (at_ most : Int) (w : World) (h : Sl w 1 A n c (cells l)) (hm : most < 2 ^ 63) (hm' : -2 ^ 63 ≤ most) :
    Calls Tryd.prog 70 #[.slice A n c, .int .i64 at_, .int .i64 most] w (RetLong w (longR l at_ most)) := by
  obtain ⟨n0, p0, e0, hv⟩ : ∃ n p e, varR l at_ = (n, p, e) := ⟨_, _, _, rfl⟩
  have hn := h.lim
  unfold maxLen at hn
  have hcap := h.cap
  have hlen0 := h.len
  rw [cells_length, Nat.mul_one] at hlen0
  have Hl := Lib.hid hlen0; clear hlen0
  have hok := varR_ok (l := l) (at_ := at_)
  rw [hv] at hok
  have Hok := Lib.hid hok; clear hok
  have Hv := Lib.hid hv; clear hv
  by_cases he : e0 = 0
  · subst he
    obtain ⟨a, ha, h1, h2, h3, -⟩ := Hok.out rfl
    have h1 : a < p0 := h1
    have h2 : p0 ≤ n := by have := Hl.out; rw [← this]; exact h2
    have h3 : n0 < 2 ^ 64 := h3
    clear ha
    by_cases hmost : 0 ≤ most
    · obtain ⟨M, rfl⟩ := Int.eq_ofNat_of_zero_le hmost
      by_cases h6 : M < n0
      · have Hr : Hid (longR l at_ M = ([], 0, 6)) := Lib.hid (by
          unfold longR
          rw [Hv.out, if_neg (by simp), if_pos (by show max (M : Int) 0 < (n0 : Int); omega)])
        go_enter Tryd.func70, Tryd.ntmps70
        go_wp2_with fail
        refine (var_eq A n c l at_ _ h Hv.out).mono ?_; rintro e w' ⟨rfl, rfl⟩
        go_wp2_with fail
        go_ret3
        rw [Hr.out]
        exact ⟨none, 0, 0, rfl, Sl.nil _ _ _ (by decide), rfl⟩
      by_cases h5 : (n0 : Int) > (n : Int) - p0
      · have Hr : Hid (longR l at_ M = ([], 0, 5)) := Lib.hid (by
          unfold longR
          rw [Hv.out, if_neg (by simp), if_neg (by show ¬ max (M : Int) 0 < (n0 : Int); omega), if_pos (by rw [Hl.out]; show n - p0 < n0; omega)])
        go_enter Tryd.func70, Tryd.ntmps70
        go_wp2_with fail
        refine (var_eq A n c l at_ _ h Hv.out).mono ?_; rintro e w' ⟨rfl, rfl⟩
        go_wp2_with fail
        go_ret3
        rw [Hr.out]
        exact ⟨none, 0, 0, rfl, Sl.nil _ _ _ (by decide), rfl⟩
      have Hr : Hid (longR l at_ M = ((l.drop p0).take n0, p0 + n0, 0)) := Lib.hid (by
        unfold longR
        rw [Hv.out, if_neg (by simp), if_neg (by show ¬ max (M : Int) 0 < (n0 : Int); omega), if_neg (by rw [Hl.out]; show ¬ n - p0 < n0; omega)])
      have hn0 : n0 ≤ 2 ^ 63 - 1 := by omega
      have hp0 : p0 + n0 ≤ n := by omega
      have Hp0 := Lib.hid hp0; clear hp0
      have hd : decide ((n : Int) - p0 < n0) = false := by simp; omega
      have Hn0 := Lib.hid hn0; clear hn0
      clear h5
      obtain ⟨E, hE⟩ : ∃ E, E = p0 + n0 := ⟨_, rfl⟩
      have hw : wrap64 ((p0 : Int) + n0) = (E : Int) := by have := Hp0.out; simp only [wrap64]; omega
      have hE1 : (E : Int) ≤ c := by have := Hp0.out; omega
      have hE2 : (p0 : Int) ≤ E := by omega
      by_cases h0 : n0 = 0
      · have hE3 : E = p0 := by omega
        subst hE3
        have H0 := Lib.hid h0; clear h0 hE
        go_enter Tryd.func70, Tryd.ntmps70
        go_wp2_with fail
        refine (var_eq A n c l at_ _ h Hv.out).mono ?_; rintro e w' ⟨rfl, rfl⟩
        go_upto_region 9 with (fail)
        clear hd h3 hcap hn h6 hm hm' hmost h1 h2
        go_wp2_with fail
        go_ret3
        rw [Hr.out]
        refine ⟨A, 0, 0, ret3s_eq rfl ?_ rfl, ?_, rfl⟩
        · show wrap64 _ = _
          rw [hw, H0.out]
          rfl
        · rw [H0.out]
          exact Sl.empty _ _ A 0 (by decide)
      · have hE3 : ¬ E = p0 := by omega
        have HE := Lib.hid hE; clear hE
        have hs := h.sub1 p0 (p0 + n0) n0 (by omega) Hp0.out (by omega) (by have := Hp0.out; unfold maxLen; omega)
        rw [Nat.add_sub_cancel_left] at hs
        go_enter Tryd.func70, Tryd.ntmps70
        go_wp2_with fail
        refine (var_eq A n c l at_ _ h Hv.out).mono ?_; rintro e w' ⟨rfl, rfl⟩
        go_upto_region 9 with (fail)
        clear hd h3 hcap hn h6 hm hm' hmost h1 h2 h0
        go_wp2_with fail
        go_ret3
        rw [Hr.out]
        refine ⟨_, n0, n0, ret3s_eq ?_ ?_ rfl, hs, rfl⟩
        · show Value.slice _ (E - p0) (E - p0) = _
          rw [HE.out, Nat.add_sub_cancel_left]
        · show wrap64 _ = _
          rw [hw, HE.out]
    · by_cases h6 : 0 < n0
      · have Hr : Hid (longR l at_ most = ([], 0, 6)) := Lib.hid (by
          unfold longR
          rw [Hv.out, if_neg (by simp), if_pos (by show max most 0 < (n0 : Int); omega)])
        go_enter Tryd.func70, Tryd.ntmps70
        go_wp2_with fail
        refine (var_eq A n c l at_ _ h Hv.out).mono ?_; rintro e w' ⟨rfl, rfl⟩
        go_wp2_with fail
        go_ret3
        rw [Hr.out]
        exact ⟨none, 0, 0, rfl, Sl.nil _ _ _ (by decide), rfl⟩
      · obtain rfl : n0 = 0 := by omega
        have Hr : Hid (longR l at_ most = ([], p0, 0)) := Lib.hid (by
          unfold longR
          rw [Hv.out, if_neg (by simp), if_neg (by show ¬ max most 0 < ((0 : Nat) : Int); omega), if_neg (by simp)]
          simp)
        go_enter Tryd.func70, Tryd.ntmps70
        go_wp2_with fail
        refine (var_eq A n c l at_ _ h Hv.out).mono ?_; rintro e w' ⟨rfl, rfl⟩
        go_wp2_with fail
        go_ret3
        rw [Hr.out]
        exact ⟨A, 0, 0, ret3s_eq rfl (by simp) rfl, by simpa [cells] using Sl.empty _ _ A 0 (by decide), rfl⟩
  · have Hr : Hid (longR l at_ most = ([], 0, e0)) := Lib.hid (by
      unfold longR
      rw [Hv.out, if_pos he])
    have he' : ((e0 : Int) != 0) = true := by simp; omega
    go_enter Tryd.func70, Tryd.ntmps70
    go_wp2_with fail
    refine (var_eq A n c l at_ _ h Hv.out).mono ?_; rintro e w' ⟨rfl, rfl⟩
    go_wp2_with fail
    go_ret3
    rw [Hr.out]
    exact ⟨none, 0, 0, rfl, Sl.nil _ _ _ (by decide), rfl⟩
end Go.Proofs.YtpijfghklgmefaaDoor

namespace Go.Proofs.YtpijfghklgmefaaDoor
open Go.RowKit
set_option linter.unusedVariables false

theorem rets33_eq {s s' : ByteArray} {k2 k3 : IntKind} {b c b' c' : Int} (h1 : s = s') (h2 : b = b') (h3 : c = c') : Ending.returned (.tuple #[.string s, .int k2 b, .int k3 c]) = Ending.returned (.tuple #[.string s', .int k2 b', .int k3 c']) := by rw [h1, h2, h3]

set_option maxHeartbeats 400000 in
theorem text_any (A : Option Addr) (n c : Nat) (l : List UInt8) (at_ most : Int) (w : World) (h : Sl w 1 A n c (cells l)) (hm : most < 2 ^ 63) (hm' : -2 ^ 63 ≤ most) :
    Calls Tryd.prog 60 #[.slice A n c, .int .i64 at_, .int .i64 most] w fun e w' => e = .returned (.tuple #[.string (bstr (longR l at_ most).1), .int .i64 ((longR l at_ most).2.1 : Nat), .int .i64 ((longR l at_ most).2.2 : Nat)]) ∧ w = w' := by
  have hlong := long_any A n c l at_ most w h hm hm'
  obtain ⟨b0, p0, e0, hv⟩ : ∃ n p e, longR l at_ most = (n, p, e) := ⟨_, _, _, rfl⟩
  rw [hv] at hlong ⊢
  have Hlong := Lib.hid hlong; clear hlong hv
  go_enter Tryd.func60, Tryd.ntmps60
  go_wp2_with fail
  refine Hlong.out.mono ?_; rintro e w1 ⟨A1, n1, c1, rfl, h1, rfl⟩
  have k1 := run_string_of (P := Tryd.prog) (w := w) 26 5 9 Tryd.underlying26 Tryd.underlying5 Tryd.underlying9 h1
  go_wp2_with fail
  go_ret3
  exact ⟨rfl, rfl⟩

/-- What Bytes answers. -/
def RetBytes3 (w : World) (r : List UInt8 × Nat × Nat) (e : Ending) (w' : World) : Prop :=
  ∃ A n c, e = .returned (.tuple #[.slice A n c, .int .i64 (r.2.1 : Int), .int .i64 (r.2.2 : Int)]) ∧ Sl w' 1 A n c (cells r.1) ∧ Below w.heap.size w w' ∧ Mine w' w.heap.size 5 A n (cells r.1)

theorem w64_nat (m n : Nat) (h : m ≤ n) (hn : n ≤ 2 ^ 63 - 1) : wrap64 (m : Int) = (m : Int) := by
  unfold wrap64
  omega

end Go.Proofs.YtpijfghklgmefaaDoor

namespace Go.Proofs.YtpijfghklgmefaaDoor
open Go.RowKit
set_option linter.unusedVariables false

/-- What Get answers. -/
def getN16 (l : List UInt8) (at_ m : Int) : Nat × Nat :=
  if ¬ (1 ≤ m ∧ m ≤ 8) ∨ ¬ (0 ≤ at_ ∧ at_ ≤ l.length) then (0, 2)
  else if (l.length : Int) - at_ < m then (0, 5) else (leVal ((l.drop at_.toNat).take m.toNat), 0)

theorem get_any16 (A : Option Addr) (n c : Nat) (l : List UInt8) (at_ m : Int) (w : World) (h : Sl w 1 A n c (cells l)) :
    Calls Tryd.prog 55 #[.slice A n c, .int .i64 at_, .int .i64 m] w fun e w' => e = .returned (.tuple #[.int .u64 ((getN16 l at_ m).1 : Nat), .int .i64 ((getN16 l at_ m).2 : Nat)]) ∧ w = w' := by
  have hl := h.len
  rw [cells_length, Nat.mul_one] at hl
  unfold getN16
  rw [hl]
  by_cases hm : 1 ≤ m ∧ m ≤ 8
  · by_cases ha : 0 ≤ at_ ∧ at_ ≤ n
    · rw [if_neg (fun hh => hh.elim (fun x => x hm) (fun x => x ha))]
      obtain ⟨a, rfl⟩ := Int.eq_ofNat_of_zero_le ha.1
      obtain ⟨k, rfl⟩ := Int.eq_ofNat_of_zero_le (show 0 ≤ m by omega)
      by_cases hs : (n : Int) - a < k
      · rw [if_pos hs]
        exact get_short A n c a k w h.lim hm.1 hm.2 (by omega) hs
      · rw [if_neg hs]
        exact get_ok A n c l a k w h (by omega) (by omega) (by omega)
    · rw [if_pos (.inr ha)]
      exact get_place A n c at_ m w h.lim hm.1 hm.2 ha
  · rw [if_pos (.inl hm)]
    exact get_width A n c at_ m w hm

theorem rget_any16 (A : Option Addr) (n c : Nat) (l : List UInt8) (at_ m : Int) (w : World) (h : Sl w 1 A n c (cells l)) :
    Calls Tryd.prog 43 #[.slice A n c, .int .i64 at_, .int .i64 m] w fun e w' => e = .returned (.tuple #[.int .u64 ((getN16 l at_ m).1 : Nat), .int .i64 ((getN16 l at_ m).2 : Nat)]) ∧ w = w' := by
  have hl := h.len
  rw [cells_length, Nat.mul_one] at hl
  unfold getN16
  rw [hl]
  by_cases hbad : ¬ (1 ≤ m ∧ m ≤ 8) ∨ ¬ (0 ≤ at_ ∧ at_ ≤ n)
  · rw [if_pos hbad]
    exact rget_arg A n c at_ m w h.lim hbad
  · rw [if_neg hbad]
    have hm : 1 ≤ m ∧ m ≤ 8 := Decidable.not_not.1 fun h' => hbad (.inl h')
    have ha : 0 ≤ at_ ∧ at_ ≤ n := Decidable.not_not.1 fun h' => hbad (.inr h')
    obtain ⟨a, rfl⟩ := Int.eq_ofNat_of_zero_le ha.1
    obtain ⟨k, rfl⟩ := Int.eq_ofNat_of_zero_le (show 0 ≤ m by omega)
    by_cases hs : (n : Int) - a < k
    · rw [if_pos hs]
      exact rget_short A n c a k w h.lim hm.1 hm.2 (by omega) hs
    · rw [if_neg hs]
      exact rget_ok A n c l a k w h (by omega) (by omega) (by omega)

/-- A number of so many bytes that was put is read. -/
theorem getN16_le (p r : List UInt8) (k n : Nat) (h1 : 1 ≤ k) (h8 : k ≤ 8) : getN16 (p ++ le k n ++ r) (p.length : Nat) (k : Nat) = (n % 256 ^ k, 0) := by
  unfold getN16
  rw [if_neg (by simp; omega), if_neg (by simp [le_length]; omega)]
  rw [Int.toNat_natCast, Int.toNat_natCast, List.append_assoc, List.drop_left]
  have : (le k n ++ r).take k = le k n := by
    have h := List.take_left (l₁ := le k n) (l₂ := r)
    rwa [le_length] at h
  rw [this, leVal_le]

theorem getN16_lt (l : List UInt8) (at_ : Int) (m : Nat) : (getN16 l at_ (m : Int)).1 < 256 ^ m := by
  unfold getN16
  have p : 0 < 256 ^ m := Nat.pow_pos (by decide)
  split
  · exact p
  · split
    · exact p
    · rw [Int.toNat_natCast]
      exact Nat.lt_of_lt_of_le (leVal_lt _) (Nat.pow_le_pow_right (by decide) (by rw [List.length_take]; omega))
theorem getN16_two (l : List UInt8) (at_ m : Int) : (getN16 l at_ m).2 = 0 ∨ (getN16 l at_ m).2 = 2 ∨ (getN16 l at_ m).2 = 5 := by
  unfold getN16
  split
  · exact .inr (.inl rfl)
  · split
    · exact .inr (.inr rfl)
    · exact .inl rfl
theorem getN16_in {l : List UInt8} {at_ m : Int} (h : (getN16 l at_ m).2 = 0) : 0 ≤ at_ ∧ at_ + m ≤ l.length := by
  unfold getN16 at h
  split at h
  · cases h
  · rename_i h1
    split at h
    · cases h
    · rename_i h2
      exact ⟨by omega, by omega⟩
end Go.Proofs.YtpijfghklgmefaaDoor

namespace Go.Proofs.YtpijfghklgmefaaDoor
open Go.RowKit Go.Proofs
set_option linter.unusedVariables false
set_option linter.unusedSimpArgs false

theorem nought_cells (k : Nat) : ((bstr (List.replicate k 0)).extract 0 k).data.map (fun b => Value.int .u8 b.toNat) = Builtin.zeroCells #[.int .u8 0] k := by
  apply Array.ext'
  have e1 : (bstr (List.replicate k 0)).extract 0 k = bstr (List.replicate k 0) := by
    apply ByteArray.ext
    simp [bstr]
  rw [e1, Array.toList_map, bstr_data, List.map_replicate]
  simp only [Builtin.zeroCells, Array.toList_map, Array.toList_range]
  apply List.ext_getElem
  · simp
  · intro j h1 h2
    simp [Nat.mod_one]
set_option maxRecDepth 20000 in
/-- So many noughts appended are the noughts of a text appended. -/
theorem append_noughts {P : Program} {t ts ti ty e : TypeId} {i : TypeInfo} (ht : P.underlying t = some (.slice e)) (hti : P.underlying ti = some (.int .i64)) (hts : P.underlying ts = some .string) (hi : P.info? e = some i) (hz : i.zero = some (.int .u8 0)) (hsize : i.size = 1) (hby : i.bytes = 1)
    (A : Option Addr) (n c k : Nat) (hk0 : 0 < k) (hk : k ≤ 1000000) (hn : n ≤ 1000000) (w : World) :
    (Builtin.append_ #[t, ti] ty #[.slice A n c, .int .i64 (k : Int)]).run P w = (Builtin.append_ #[t, ts] ty #[.slice A n c, .string (bstr (List.replicate k 0))]).run P w := by
  have hw : IntKind.i64.wrap (k : Int) = (k : Int) := by rw [IntKind.wrap_i64]; omega
  have h1 : ¬ (k : Int) < 0 := by omega
  have h2 : ¬ (k : Int) > 281474976710656 := by omega
  have h2' : ¬ (281474976710656 : Int) < (k : Int) := by omega
  have h3 : ¬ (9223372036854775807 < ((n : Int) + (k : Int))) := by omega
  have h4 : k ≠ 0 := by omega
  have hsz : (bstr (List.replicate k 0)).size = k := by rw [bstr_size, List.length_replicate]
  have hc := nought_cells k
  have hfit : ¬ (281474976710656 < Builtin.nextslicecap (n + k) c) ∨ n + k ≤ c := by
    rcases Nat.lt_or_ge c (n + k) with h | h
    · left
      have := growslice_fits (bytes := 1) (need := n + k) (old := c) h (by omega)
      omega
    · exact .inr h
  have hfc : ∀ w' : World, (Builtin.firstCells 1 k (.string (bstr (List.replicate k 0)))).run P w' = .ok (Builtin.zeroCells #[.int .u8 0] k) w' := fun w' => by
    rw [← hc]; rfl
  by_cases hroom : n + k ≤ c
  · simp [Builtin.append_, run_underlying ht, run_underlying hti, run_underlying hts, sizeOf, typeInfo, zeroValue, hi, hz, hsize, hby, asInt, asIntOf, hw, h1, h2, h2', h4, Builtin.lenOf, hsz, hroom, hfc, Value.cells]
  · have hf := hfit.resolve_right hroom
    simp [Builtin.append_, run_underlying ht, run_underlying hti, run_underlying hts, sizeOf, typeInfo, zeroValue, hi, hz, hsize, hby, asInt, asIntOf, hw, h1, h2, h2', h3, h4, Builtin.lenOf, hsz, hroom, hf, hfc, Value.cells]
set_option maxRecDepth 20000
set_option maxHeartbeats 1600000
theorem own_none16 {w : World} {B n c : Nat} {T : TypeId} {A : Option Addr} {xs : List Value} (h : w.ownsRow B T 1 (.slice A n c) n xs) (hn : 0 < n) : Own w B T 1 A 0 c [] := by
  rcases h.2 with ⟨hv, h0⟩ | ⟨g, cap, cur, hv, hb, hg, hnc, hcm, hcs, ht⟩
  · omega
  · injection hv with e1 e2 e3
    subst e1 e3
    exact ⟨⟨rfl, Nat.zero_le _, by omega, fun j u hu => by simp at hu⟩, .inr ⟨rfl, .inr ⟨g, c, cur, rfl, hb, hg, Nat.zero_le _, hcm, hcs, rfl⟩⟩⟩
theorem wpList_append_nb16 {w : World} {B : Nat} {ops : Array Oper} {rest : List Oper} {o : Oper} {a : Act} {Q : Exit → Act → World → Prop} (hgd : o.guard = none) (s x : Operand)
    (ho : o.op = .call { callee := .builtin .append, args := #[s, x], argTypes := #[26, 3] })
    (hv : a.eval s = .slice none 0 0) (hB : B ≤ w.heap.size) (k : Nat) (hx : a.eval x = .int .i64 (k : Int)) (hk0 : 0 < k) (hk1 : k ≤ 1000000)
    (hk : ∀ A' c' w', Own w' B 5 1 A' 0 c' [] → k ≤ c' → c' ≤ maxLen → Below B w w' → wpList Tryd.prog ops Q rest (a.put o.dst (.slice A' k c')) w') : wpList Tryd.prog ops Q (o :: rest) a w := by
  obtain ⟨i0, hi, hz0, hz1, hz2⟩ := info_parts info_u8
  have hs := Src.ofString (P := Tryd.prog) w Tryd.underlying9 (bstr (List.replicate k 0))
  have hsz : (bstr (List.replicate k 0)).size = k := by rw [bstr_size, List.length_replicate]
  rw [hsz] at hs
  obtain ⟨A', c', w', hr, h2, h3, h4⟩ := run_append_mine (P := Tryd.prog) 26 9 o.type i0 (.int .u8 0) 1 Tryd.underlying26 hi hz0 hz1 hz2 rfl (by decide) (Own.full (B := B) (Sl.nil w 1 0 (by decide))) hB (.string (bstr (List.replicate k 0))) k (cells (bstr (List.replicate k 0)).data.toList) hs (by unfold maxLen; omega) (by omega)
  rw [← append_noughts (ti := 3) Tryd.underlying26 Tryd.underlying3 Tryd.underlying9 hi hz0 hz1 hz2 none 0 0 k hk0 hk1 (by decide) w] at hr
  refine wpList_plain hgd fun _ hK => ?_
  unfold Oper.wp execOp
  simp only [ho, resolve, invoke, builtin, Sem.run_bind, Sem.run_pure, Result.andThen_ok, List.map_toArray, List.map_cons, List.map_nil, hv, hx, hr]
  have h5 := h4 hk0
  rw [Nat.zero_add] at h5 h2 ⊢
  exact hK _ _ (hk A' c' w' (own_none16 h5 hk0) h2.sl.cap h2.sl.top h3)
theorem grow16 (k : Nat) (hk0 : 0 < k) (hk1 : k ≤ 1000000) (w : World) :
    Calls Tryd.prog 67 #[.slice none 0 0, .int .i64 (k : Int)] w fun e w' => ∃ A' c', e = .returned (.slice A' 0 c') ∧ Own w' w.heap.size 5 1 A' 0 c' [] ∧ Below w.heap.size w w' := by
  have h1 : ¬ (k : Int) < 0 := by omega
  have h2 : (0 : Int) < (k : Int) := by omega
  go_enter Tryd.func67, Tryd.ntmps67
  go_wp2_with (at_builtin; refine wpList_append_nb16 (B := w.heap.size) rfl (.tmp 20) (.tmp 21) rfl rfl (Nat.le_refl _) k rfl hk0 hk1 ?_)
  intro A' c' w1 ho hc hm hb
  have HO := Lib.hid ho
  have HB := Lib.hid hb
  unfold maxLen at hm
  clear ho hb
  go_wp2_with fail
  go_ret
  exact ⟨A', c', rfl, HO.out, HB.out⟩
end Go.Proofs.YtpijfghklgmefaaDoor

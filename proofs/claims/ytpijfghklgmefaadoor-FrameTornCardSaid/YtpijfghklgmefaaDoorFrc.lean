/-
  Contracts of slices.Concat over bytes and of package frame's piece. Conditions: bounds; of sums: the table reads as the row lists it ('Nt'). (Written by gen_frc.py.)
-/
import Derived.Test.YtpijfghklgmefaaDoorFrb
import Derived.Test.YtpijfghklgmefaaDoorRa
namespace Go.Proofs.YtpijfghklgmefaaDoor
open Go.RowKit Go.Proofs
set_option linter.unusedVariables false
set_option maxRecDepth 20000
set_option maxHeartbeats 1600000

theorem run_append_own {w : World} {B n c m : Nat} {A A2 : Option Addr} {c2 : Nat} {xs : List Value} {ys : List UInt8} (h : w.ownsRow B 5 1 (.slice A n c) n xs) (hsl : Sl w 1 A n c xs) (hB : B ≤ w.heap.size)
    (hs : Sl w 1 A2 m c2 (cells ys)) (h47 : n + m ≤ 140737488355328) (ty : TypeId) :
    ∃ A' c' w', (Builtin.append_ #[26, 26] ty #[.slice A n c, .slice A2 m c2]).run Tryd.prog w = .ok (.slice A' (n + m) c') w' ∧ Sl w' 1 A' (n + m) c' (xs ++ cells ys) ∧ Below B w w' ∧ w'.ownsRow B 5 1 (.slice A' (n + m) c') (n + m) (xs ++ cells ys) := by
  obtain ⟨i0, hi, hz0, hz1, hz2⟩ := info_parts info_u8
  by_cases hm : m = 0
  · subst hm
    have hy : cells ys = [] := List.eq_nil_of_length_eq_zero (by simpa using hs.len)
    have hsr := hs.src (P := Tryd.prog) Tryd.underlying26 (by decide) (cells_one ys)
    rw [hy] at hsr ⊢
    exact ⟨A, c, w, run_append_nothing w 26 26 ty 5 i0 Tryd.underlying26 hi A n c hsl.cap _ (by rw [hz1]; exact hsr), by simpa using hsl, Below.refl _ _, by simpa using h⟩
  · obtain ⟨A', c', w', hr, h2, h3, h4⟩ := run_append_mine (P := Tryd.prog) 26 26 ty i0 (.int .u8 0) 1 Tryd.underlying26 hi hz0 hz1 hz2 rfl (by decide) ⟨hsl, .inr h⟩ hB (.slice A2 m c2) m (cells ys) (hs.src Tryd.underlying26 (by decide) (cells_one ys)) (by unfold maxLen; omega) (by omega)
    exact ⟨A', c', w', hr, h2.sl, h3, h4 (by omega)⟩
theorem wpList_append_own {w : World} {B n c : Nat} {A : Option Addr} {xs : List Value} {ops : Array Oper} {rest : List Oper} {o : Oper} {a : Act} {Q : Exit → Act → World → Prop} (hgd : o.guard = none) (s x : Operand)
    (ho : o.op = .call { callee := .builtin .append, args := #[s, x], argTypes := #[26, 26] })
    (hv : a.eval s = .slice A n c) (h : w.ownsRow B 5 1 (.slice A n c) n xs) (hsl : Sl w 1 A n c xs) (hB : B ≤ w.heap.size)
    (A2 : Option Addr) (m c2 : Nat) (ys : List UInt8) (hx : a.eval x = .slice A2 m c2) (hs : Sl w 1 A2 m c2 (cells ys)) (h47 : n + m ≤ 140737488355328)
    (hk : ∀ A' c' w', Sl w' 1 A' (n + m) c' (xs ++ cells ys) → w'.ownsRow B 5 1 (.slice A' (n + m) c') (n + m) (xs ++ cells ys) → Below B w w' → wpList Tryd.prog ops Q rest (a.put o.dst (.slice A' (n + m) c')) w') : wpList Tryd.prog ops Q (o :: rest) a w := by
  obtain ⟨A', c', w', hr, h2, h3, h4⟩ := run_append_own h hsl hB hs h47 o.type
  refine wpList_plain hgd fun _ hK => ?_
  unfold Oper.wp execOp
  simp only [ho, resolve, invoke, builtin, Sem.run_bind, Sem.run_pure, Result.andThen_ok, List.map_toArray, List.map_cons, List.map_nil, hv, hx, hr]
  exact hK _ _ (hk A' c' w' h2 h4 h3)
theorem Own.row0 {w : World} {B c : Nat} {T : TypeId} {A : Option Addr} (h : Own w B T 1 A 0 c []) (hc : 0 < c) : w.ownsRow B T 1 (.slice A 0 c) 0 [] := h.own.resolve_left (by omega)
theorem grow17 (k : Nat) (hk0 : 0 < k) (hk1 : k ≤ 1000000) (w : World) :
    Calls Tryd.prog 67 #[.slice none 0 0, .int .i64 (k : Int)] w fun e w' => ∃ A' c', e = .returned (.slice A' 0 c') ∧ Sl w' 1 A' 0 c' [] ∧ w'.ownsRow w.heap.size 5 1 (.slice A' 0 c') 0 [] ∧ Below w.heap.size w w' := by
  have h1 : ¬ (k : Int) < 0 := by omega
  have h2 : (0 : Int) < (k : Int) := by omega
  go_enter Tryd.func67, Tryd.ntmps67
  go_wp2_with (at_builtin; refine wpList_append_nb16 (B := w.heap.size) rfl (.tmp 20) (.tmp 21) rfl rfl (Nat.le_refl _) k rfl hk0 hk1 ?_)
  intro A' c' w1 ho hc hm hb
  have HO := Lib.hid ho
  have HB := Lib.hid hb
  have HC := Lib.hid hc
  unfold maxLen at hm
  clear ho hb
  go_wp2_with fail
  go_ret
  exact ⟨A', c', rfl, HO.out.sl, HO.out.row0 (by have := HC.out; omega), HB.out⟩

theorem flatten_take_len (rs : List (List UInt8)) (i : Nat) : (rs.take i).flatten.length ≤ rs.flatten.length := by
  conv => rhs; rw [← List.take_append_drop i rs, List.flatten_append, List.length_append]
  omega
theorem flatten_take_snoc {rs : List (List UInt8)} {i : Nat} {r : List UInt8} (h : rs[i]? = some r) : (rs.take (i + 1)).flatten = (rs.take i).flatten ++ r := by
  rw [List.take_add_one, h, List.flatten_append]
  simp
theorem concat17 (A : Option Addr) (n c : Nat) (rs : List (List UInt8)) (w : World) (h : Gr w A n c rs) (h0 : 0 < rs.flatten.length) (hb : rs.flatten.length ≤ 1000000) (hn : n ≤ 1000) :
    Calls Tryd.prog 53 #[.slice A n c] w fun e w' => ∃ A' n' c', e = .returned (.slice A' n' c') ∧ Sl w' 1 A' n' c' (cells rs.flatten) ∧ Mine w' w.heap.size 5 A' n' (cells rs.flatten) ∧ Below w.heap.size w w' := by
  have HH := Lib.hid h
  have HBD := Lib.hid hb
  have H0 := Lib.hid h0
  clear h h0 hb
  obtain ⟨t, ht⟩ : ∃ t, t = rs.flatten.length := ⟨_, rfl⟩
  have HT := Lib.hid ht
  have hgr := grow17 t (by have := H0.out; omega) (by have := HBD.out; omega)
  clear ht
  go_enter Tryd.func53, Tryd.ntmps53
  go_wp2_with fail
  go_loopw [3, 11] (fun v iv wr => wr = w ∧ ∃ (i s : Nat), i ≤ n ∧ s = (rs.take i).flatten.length ∧ v = .int .i64 (s : Int) ∧ iv = .int .i64 (i : Int)) (fun _ iv _ => n - (intOf iv).toNat)
  case atStart => exact ⟨rfl, 0, 0, by omega, rfl, rfl, rfl⟩
  case round =>
    obtain ⟨hwr, i, s, hi, hs, rfl, rfl⟩ := hrel
    obtain rfl : w = wr := hwr.symm
    have hsl : s ≤ 1000000 := by have := flatten_take_len rs i; have := HBD.out; omega
    have HS := Lib.hid hs
    clear hs
    by_cases hlt : i < n
    · have hii : (i : Int) < (n : Int) := by omega
      obtain ⟨b, o, rfl, hcc⟩ := HH.out.at_ (by omega)
      have hget := HH.out.get hlt
      obtain ⟨r, hr⟩ : ∃ r, r = rs.getD i [] := ⟨_, rfl⟩
      rw [← hr] at hget
      obtain ⟨A1, c1, hc1, hs1⟩ := hcc i r hget
      have hsn := flatten_take_snoc hget
      have hle := flatten_take_len rs (i + 1)
      rw [hsn, List.length_append] at hle
      have hlr : s + r.length ≤ 1000000 := by have := HS.out; have := HBD.out; omega
      have HSN := Lib.hid hsn
      have q1 : ¬ ((s : Int) + (r.length : Int)) < 0 := by omega
      clear hget hr hsn hle hcc hs1
      go_wp2_with fail
      go_roundw
      case rel => exact ⟨trivial, i + 1, s + r.length, by omega, by rw [HSN.out, List.length_append, ← HS.out], by first | rfl | go_num, by first | rfl | go_num⟩
      case measure => simp [intOf]; omega
    · obtain rfl : n = i := by omega
      obtain rfl : s = t := by
        have h1 := HS.out
        rw [List.take_of_length_le (by rw [HH.out.len]; exact Nat.le_refl _)] at h1
        rw [h1, HT.out]
      go_wp2_with fail
      refine (hgr w).mono ?_; clear hgr; rintro e w1 ⟨A3, c3, rfl, hsl3, ho, hb⟩
      have HSL := Lib.hid hsl3
      have HO := Lib.hid ho
      have HB := Lib.hid hb
      clear ho hb hsl3
      go_wp2_with fail
      go_loopw [6, 27] (fun v iv wq => ∃ (i n4 : Nat) (A4 : Option Addr) (c4 : Nat), i ≤ n ∧ v = .slice A4 n4 c4 ∧ iv = .int .i64 (i : Int) ∧ n4 = (rs.take i).flatten.length ∧ Sl wq 1 A4 n4 c4 (cells (rs.take i).flatten) ∧ wq.ownsRow w.heap.size 5 1 (.slice A4 n4 c4) n4 (cells (rs.take i).flatten) ∧ Below w.heap.size w wq) (fun _ iv _ => n - (intOf iv).toNat)
      case atStart => exact ⟨0, 0, A3, c3, by omega, rfl, rfl, rfl, HSL.out, HO.out, HB.out⟩
      case round =>
        obtain ⟨i, n4, A4, c4, hi, rfl, rfl, hn4, hs4, ho4, hb4⟩ := hrel
        have HS4 := Lib.hid hs4
        have HO4 := Lib.hid ho4
        have HB4 := Lib.hid hb4
        have HN4 := Lib.hid hn4
        clear hs4 ho4 hb4 hn4
        by_cases hlt : i < n
        · have hii : (i : Int) < (n : Int) := by omega
          obtain ⟨b, o, rfl, hcc⟩ := (HH.out.later HB4.out).at_ (by omega)
          have hget := HH.out.get hlt
          obtain ⟨r, hr⟩ : ∃ r, r = rs.getD i [] := ⟨_, rfl⟩
          rw [← hr] at hget
          obtain ⟨A1, c1, hc1, hs1⟩ := hcc i r hget
          have hsn := flatten_take_snoc hget
          have hle := flatten_take_len rs (i + 1)
          rw [hsn, List.length_append] at hle
          have hlr : n4 + r.length ≤ 1000000 := by have := HN4.out; have := HBD.out; omega
          have HSN := Lib.hid hsn
          have HS1 := Lib.hid hs1
          clear hget hr hsn hle hcc hs1
          go_wp2_with (at_builtin; refine wpList_append_own (B := w.heap.size) rfl (.tmp 31) (.tmp 32) rfl rfl HO4.out HS4.out HB4.out.size A1 r.length c1 r rfl HS1.out (by omega) ?_)
          intro A5 c5 w5 hs5 ho5 hb5
          rw [← cells_append, ← HSN.out] at hs5 ho5
          have HS5 := Lib.hid hs5
          have HO5 := Lib.hid ho5
          have HB5 := Lib.hid (HB4.out.trans hb5)
          clear hs5 ho5 hb5 hc1
          go_wp2_with fail
          go_roundw
          case rel => exact ⟨i + 1, n4 + r.length, A5, c5, by omega, rfl, by first | rfl | go_num, by rw [HSN.out, List.length_append, ← HN4.out], HS5.out, HO5.out, HB5.out⟩
          case measure => simp [intOf]; omega
        · obtain rfl : n = i := by omega
          have e : rs.take n = rs := List.take_of_length_le (by rw [HH.out.len]; exact Nat.le_refl _)
          have EE := Lib.hid e
          clear e
          go_wp2_with fail
          go_ret
          have h1 := HS4.out
          have h2 := HO4.out
          rw [EE.out] at h1 h2
          exact ⟨A4, n4, c4, rfl, h1, Mine.of_own h2, HB4.out⟩

/-- copy over a part of cells of the call's own. -/
theorem run_copy_part {w : World} {B n cd k m c : Nat} {g : Nat} {A : Option Addr} {r d : List UInt8} (h : Mine w B 5 (some ⟨g, 0, none⟩) n (cells d)) (hd : d.length = n) (hs : Sl w 1 A m c (cells r)) (hm : 0 < m) (hk : k + m ≤ n) (ty : TypeId) :
    ∃ w', (Builtin.copy_ #[26, 26] ty #[.slice (some ⟨g, k, none⟩) (n - k) cd, .slice A m c]).run Tryd.prog w = .ok (.int .i64 (m : Int)) w' ∧ Mine w' B 5 (some ⟨g, 0, none⟩) n (cells (d.take k ++ r ++ d.drop (k + m))) ∧ Fr (fun k => k = g) w w' := by
  have hl := hs.len
  rw [Nat.mul_one] at hl
  have hrl : r.length = m := by rw [cells_length] at hl; exact hl
  have su : (Tryd.prog.info? 5).map (·.size) = some 1 := by kernel_rfl
  obtain ⟨g', cur, hg', hB, hrow, hcur, ht⟩ := h (by omega)
  injection hg' with hg'
  injection hg' with hg' _
  subst hg'
  obtain ⟨b, o, rfl, hc⟩ := hs.at_ (k := 0) (by omega)
  have hmin : Nat.min m (n - k) = m := Nat.min_eq_left (by omega)
  have hr := run_copy_row (P := Tryd.prog) w 26 26 ty 5 g k (n - k) cd ⟨b, o, none⟩ m c cur 5 (cells r) Tryd.underlying26 su hrow (by rw [hl, hmin]) (fun j v hv => by
    rw [show (⟨b, o, none⟩ : Addr).add j = ⟨b, o + j, none⟩ from by unfold Addr.add; split <;> simp_all]
    exact hc j v hv) (by rw [hl]; omega) (cells_one r)
  rw [hl] at hr
  refine ⟨_, hr, fun _ => ⟨g, _, rfl, hB, setRow_heap _ _ _ _ _ _ hrow, ?_, ?_⟩, ⟨rfl, rfl, rfl, by simp, fun k hk hne => setRow_other _ _ k _ hne⟩⟩
  · simp only [List.size_toArray, List.length_append, List.length_take, List.length_drop, Array.length_toList, hl]
    omega
  · have hdl : (cells d).length = n := by rw [cells_length, hd]
    have e1 : cur.toList.take k = cells (d.take k) := by
      rw [cells_take, ← ht, List.take_take, Nat.min_eq_left (by omega)]
    have e2 : (cur.toList.drop (k + m)).take (n - (k + m)) = cells (d.drop (k + m)) := by
      rw [cells_drop, ← ht, List.drop_take]
    have l1 : (cells (d.take k) ++ cells r).length = k + m := by rw [List.length_append, cells_length, cells_length, List.length_take, hrl]; omega
    rw [e1]
    show List.take n (cells (List.take k d) ++ cells r ++ List.drop (k + m) cur.toList) = _
    rw [List.take_append, l1, List.take_of_length_le (by rw [l1]; exact hk), e2, cells_append, cells_append]
theorem le_two (n : Nat) : (le 2 n).length = 2 := le_length 2 n
theorem pc_flat (m : UInt8) (t : List UInt8) : [[m], le 2 t.length, List.replicate 4 0, t].flatten = hdF m t ++ List.replicate 4 0 ++ t := by simp [hdF]
theorem pc_done (m : UInt8) (t : List UInt8) (s : W32) (d : List UInt8) (hd : d = hdF m t ++ List.replicate 4 0 ++ t) : d.take 3 ++ le 4 (smP s d).toNat ++ d.drop (3 + 4) = pcF m t s := by
  have h3 := hdF_len m t
  have e1 : d.take 3 = hdF m t := by
    have := List.take_left (l₁ := hdF m t) (l₂ := List.replicate 4 0 ++ t)
    rw [h3] at this
    rw [hd, List.append_assoc]
    exact this
  have e2 : d.drop 7 = t := by
    have := List.drop_left (l₁ := hdF m t ++ List.replicate 4 0) (l₂ := t)
    rw [List.length_append, h3, List.length_replicate] at this
    rw [hd]
    exact this
  rw [smP, e1, show 3 + 4 = 7 from rfl, e2]
  rfl
theorem piece_any (m : UInt8) (A : Option Addr) (n c : Nat) (t : List UInt8) (s : W32) (w : World) (h : Sl w 1 A n c (cells t)) (hn : n ≤ 65535) (hN : Nt w) :
    Calls Tryd.prog 24 #[.int .u8 (m.toNat : Int), .slice A n c, .int .u32 (s.toNat : Int)] w (RetMine w.heap.size w (pcF m t s)) := by
  have hl := h.len
  rw [cells_length, Nat.mul_one] at hl
  have HS := Lib.hid h
  have NT := Lib.hid hN
  have HL := Lib.hid hl
  have e1 : IntKind.u64.wrap (n : Int) = (n : Int) := by rw [IntKind.wrap_u64]; omega
  have hmk := fun W => make_eq 4 4 rfl (by decide) W
  clear h hN hl
  go_enter Tryd.func24, Tryd.ntmps24
  go_wp2_with fail
  refine wp_region_held_drew (S := fun w' => Below w.heap.size w w') (by kernel_rfl) (Below.drew (Below.refl _ _)) (fun hHeld => ?_)
  clear hHeld
  have hHeld : Below w.heap.size w w.drew := Below.drew (Below.refl _ _)
  have hz_0 : w.heap.size ≤ w.drew.heap.size ∧ w.drew.heap.size ≤ w.heap.size := ⟨Nat.le_refl _, Nat.le_refl _⟩
  obtain ⟨v_W0, hw⟩ : ∃ v_W0, v_W0 = w.drew := ⟨_, rfl⟩
  rw [← hw] at hHeld hz_0 ⊢
  clear hw
  refine wpAnyH_take (i := 0) (oi := ⟨some 8, _, _, _, _, _⟩) rfl (by kernel_rfl) (by kernel_rfl) (by kernel_rfl) (fun _ _ _ h => h) (Or.inl ⟨by rfl, by
    intro wq hSw
    (try dsimp only at hSw)
    first | (go_simp; done) | (go_simp; with_reducible rfl)⟩) hHeld ?_
  try simp only [Act.put, List.setIfInBounds_toArray, List.set_cons_zero, List.set_cons_succ]
  refine wpAnyH_take (i := 2) (oi := ⟨some 10, _, _, _, _, _⟩) rfl (by kernel_rfl) (by kernel_rfl) (by kernel_rfl) (fun _ _ _ h => h) (Or.inl ⟨by rfl, by
    intro wq hSw
    (try dsimp only at hSw)
    first | (go_simp; done) | (go_simp; with_reducible rfl)⟩) hHeld ?_
  try simp only [Act.put, List.setIfInBounds_toArray, List.set_cons_zero, List.set_cons_succ]
  refine wpAnyH_take (i := 3) (oi := ⟨some 11, _, _, _, _, _⟩) rfl (by kernel_rfl) (by kernel_rfl) (by kernel_rfl) (fun _ _ _ h => h) (Or.inl ⟨by rfl, by
    intro wq hSw
    (try dsimp only at hSw)
    first | (go_simp; done) | (go_simp; with_reducible rfl)⟩) hHeld ?_
  try simp only [Act.put, List.setIfInBounds_toArray, List.set_cons_zero, List.set_cons_succ]
  refine wpAnyH_take (i := 4) (oi := ⟨some 12, _, _, _, _, _⟩) rfl (by kernel_rfl) (by kernel_rfl) (by kernel_rfl) (fun _ _ _ h => h) (Or.inl ⟨by rfl, by
    intro wq hSw
    (try dsimp only at hSw)
    first | (go_simp; done) | (go_simp; with_reducible rfl)⟩) hHeld ?_
  try simp only [Act.put, List.setIfInBounds_toArray, List.set_cons_zero, List.set_cons_succ]
  refine wpAnyH_take (i := 7) (oi := ⟨some 15, _, _, _, _, _⟩) rfl (by kernel_rfl) (by kernel_rfl) (by kernel_rfl) (fun _ _ _ h => h) (Or.inl ⟨by rfl, by
    intro wq hSw
    (try dsimp only at hSw)
    first | (go_simp; done) | (go_simp; with_reducible rfl)⟩) hHeld ?_
  try simp only [Act.put, List.setIfInBounds_toArray, List.set_cons_zero, List.set_cons_succ]
  refine wpAnyH_ready (rs := [1, 5, 6]) (by kernel_rfl) (by simp) ?_
  refine AllReadyH.cons (o := ⟨some 9, _, _, _, _, _⟩) rfl (fun K hK => ?_) (AllReadyH.cons (o := ⟨some 13, _, _, _, _, _⟩) rfl (fun K hK => ?_) (AllReadyH.cons (o := ⟨some 14, _, _, _, _, _⟩) rfl (fun K hK => ?_) (AllReadyH.nil)))
  focus
    go_simp
    obtain ⟨g_m, hg⟩ : ∃ g, g = v_W0.heap.size := ⟨_, rfl⟩
    have hbN : Below v_W0.heap.size v_W0 (v_W0.alloc (.cells #[.int .u8 (m.toNat : Int)] 5)) := (Below.refl _ _).alloc (Nat.le_refl _) _
    have hx := heap_alloc_new v_W0 (.cells #[.int .u8 (m.toNat : Int)] 5)
    have hz_3 : v_W0.heap.size + 1 ≤ (v_W0.alloc (.cells #[.int .u8 (m.toNat : Int)] 5)).heap.size ∧ (v_W0.alloc (.cells #[.int .u8 (m.toNat : Int)] 5)).heap.size ≤ v_W0.heap.size + 1 := by simp
    obtain ⟨v_W1, hw⟩ : ∃ v_W1, v_W1 = v_W0.alloc (.cells #[.int .u8 (m.toNat : Int)] 5) := ⟨_, rfl⟩
    rw [← hw] at hbN hx hz_3 ⊢
    clear hw
    rw [← hg] at hx ⊢
    have hHeld := hHeld.trans (hbN.mono hHeld.size)
    have hfN : Fr (fun _ => False) v_W0 v_W1 := Fr.of_below hbN
    have blm_L1 := Lib.hid hx
    clear hx
    have hz_5 : g_m ≤ v_W0.heap.size ∧ v_W0.heap.size ≤ g_m := by omega
    clear hg hbN
    refine hK.out _ _ hHeld (fun _ => ?_)
    clear hK K hfN
    try simp only [Act.put, List.setIfInBounds_toArray, List.set_cons_zero, List.set_cons_succ]
  rotate_left
  focus
    go_simp
    refine (put_yes none 0 0 [] 2 n v_W0 (Sl.nil v_W0 1 0 (by decide)) (by decide) (by decide) (by decide) (by omega)).mono ?_
    rintro e v_W1 ⟨A5, n5, c5, rfl, hs5, hbN⟩
    rw [List.nil_append] at hs5
    have hq5 := hs5.len
    rw [cells_length, le_length] at hq5
    obtain rfl : n5 = 2 := by omega
    have S5_L1 := Lib.hid hs5
    clear hs5 hq5
    go_wp2_with fail
    have hHeld := hHeld.trans (hbN.mono hHeld.size)
    have hfN : Fr (fun _ => False) v_W0 v_W1 := Fr.of_below hbN
    have hz_7 := hbN.size
    clear hbN
    refine hK.out _ _ hHeld (fun _ => ?_)
    clear hK K hfN
    try simp only [Act.put, List.setIfInBounds_toArray, List.set_cons_zero, List.set_cons_succ]
  rotate_left
  focus
    go_simp
    obtain ⟨g_z, hg⟩ : ∃ g, g = v_W0.heap.size := ⟨_, rfl⟩
    have hbN : Below v_W0.heap.size v_W0 (v_W0.alloc (.cells (madeCells #[.int .u8 0] 4) 5)) := (Below.refl _ _).alloc (Nat.le_refl _) _
    have hx := heap_alloc_new v_W0 (.cells (madeCells #[.int .u8 0] 4) 5)
    have hz_9 : v_W0.heap.size + 1 ≤ (v_W0.alloc (.cells (madeCells #[.int .u8 0] 4) 5)).heap.size ∧ (v_W0.alloc (.cells (madeCells #[.int .u8 0] 4) 5)).heap.size ≤ v_W0.heap.size + 1 := by simp
    obtain ⟨v_W1, hw⟩ : ∃ v_W1, v_W1 = v_W0.alloc (.cells (madeCells #[.int .u8 0] 4) 5) := ⟨_, rfl⟩
    rw [← hw] at hbN hx hz_9 ⊢
    clear hw
    rw [← hg] at hx ⊢
    have hHeld := hHeld.trans (hbN.mono hHeld.size)
    have hfN : Fr (fun _ => False) v_W0 v_W1 := Fr.of_below hbN
    have blz_L1 := Lib.hid hx
    clear hx
    have hz_11 : g_z ≤ v_W0.heap.size ∧ v_W0.heap.size ≤ g_z := by omega
    clear hg hbN
    refine hK.out _ _ hHeld (fun _ => ?_)
    clear hK K hfN
    try simp only [Act.put, List.setIfInBounds_toArray, List.set_cons_zero, List.set_cons_succ]
  rotate_left
  all_goals first
    |
      refine wpAnyH_ready (rs := [5, 6]) (by kernel_rfl) (by simp) ?_
      refine AllReadyH.cons (o := ⟨some 13, _, _, _, _, _⟩) rfl (fun K hK => ?_) (AllReadyH.cons (o := ⟨some 14, _, _, _, _, _⟩) rfl (fun K hK => ?_) (AllReadyH.nil))
      focus
        go_simp
        refine (put_yes none 0 0 [] 2 n v_W1 (Sl.nil v_W1 1 0 (by decide)) (by decide) (by decide) (by decide) (by omega)).mono ?_
        rintro e v_W2 ⟨A5, n5, c5, rfl, hs5, hbN⟩
        rw [List.nil_append] at hs5
        have hq5 := hs5.len
        rw [cells_length, le_length] at hq5
        obtain rfl : n5 = 2 := by omega
        have S5_L2 := Lib.hid hs5
        clear hs5 hq5
        go_wp2_with fail
        have hHeld := hHeld.trans (hbN.mono hHeld.size)
        have hfN : Fr (fun _ => False) v_W1 v_W2 := Fr.of_below hbN
        have hz_13 := hbN.size
        have blm_L2 := Lib.hid (hfN.row_some blm_L1.out (fun h => h))
        clear blm_L1
        clear hbN
        refine hK.out _ _ hHeld (fun _ => ?_)
        clear hK K hfN
        try simp only [Act.put, List.setIfInBounds_toArray, List.set_cons_zero, List.set_cons_succ]
      rotate_left
      focus
        go_simp
        obtain ⟨g_z, hg⟩ : ∃ g, g = v_W1.heap.size := ⟨_, rfl⟩
        have hbN : Below v_W1.heap.size v_W1 (v_W1.alloc (.cells (madeCells #[.int .u8 0] 4) 5)) := (Below.refl _ _).alloc (Nat.le_refl _) _
        have hx := heap_alloc_new v_W1 (.cells (madeCells #[.int .u8 0] 4) 5)
        have hz_16 : v_W1.heap.size + 1 ≤ (v_W1.alloc (.cells (madeCells #[.int .u8 0] 4) 5)).heap.size ∧ (v_W1.alloc (.cells (madeCells #[.int .u8 0] 4) 5)).heap.size ≤ v_W1.heap.size + 1 := by simp
        obtain ⟨v_W2, hw⟩ : ∃ v_W2, v_W2 = v_W1.alloc (.cells (madeCells #[.int .u8 0] 4) 5) := ⟨_, rfl⟩
        rw [← hw] at hbN hx hz_16 ⊢
        clear hw
        rw [← hg] at hx ⊢
        have hHeld := hHeld.trans (hbN.mono hHeld.size)
        have hfN : Fr (fun _ => False) v_W1 v_W2 := Fr.of_below hbN
        have blm_L2 := Lib.hid (hfN.row_some blm_L1.out (fun h => h))
        clear blm_L1
        have blz_L2 := Lib.hid hx
        clear hx
        have hz_19 : g_z ≤ v_W1.heap.size ∧ v_W1.heap.size ≤ g_z := by omega
        clear hg hbN
        refine hK.out _ _ hHeld (fun _ => ?_)
        clear hK K hfN
        try simp only [Act.put, List.setIfInBounds_toArray, List.set_cons_zero, List.set_cons_succ]
      rotate_left
    |
      refine wpAnyH_ready (rs := [1, 6]) (by kernel_rfl) (by simp) ?_
      refine AllReadyH.cons (o := ⟨some 9, _, _, _, _, _⟩) rfl (fun K hK => ?_) (AllReadyH.cons (o := ⟨some 14, _, _, _, _, _⟩) rfl (fun K hK => ?_) (AllReadyH.nil))
      focus
        go_simp
        obtain ⟨g_m, hg⟩ : ∃ g, g = v_W1.heap.size := ⟨_, rfl⟩
        have hbN : Below v_W1.heap.size v_W1 (v_W1.alloc (.cells #[.int .u8 (m.toNat : Int)] 5)) := (Below.refl _ _).alloc (Nat.le_refl _) _
        have hx := heap_alloc_new v_W1 (.cells #[.int .u8 (m.toNat : Int)] 5)
        have hz_21 : v_W1.heap.size + 1 ≤ (v_W1.alloc (.cells #[.int .u8 (m.toNat : Int)] 5)).heap.size ∧ (v_W1.alloc (.cells #[.int .u8 (m.toNat : Int)] 5)).heap.size ≤ v_W1.heap.size + 1 := by simp
        obtain ⟨v_W2, hw⟩ : ∃ v_W2, v_W2 = v_W1.alloc (.cells #[.int .u8 (m.toNat : Int)] 5) := ⟨_, rfl⟩
        rw [← hw] at hbN hx hz_21 ⊢
        clear hw
        rw [← hg] at hx ⊢
        have hHeld := hHeld.trans (hbN.mono hHeld.size)
        have hfN : Fr (fun _ => False) v_W1 v_W2 := Fr.of_below hbN
        have S5_L2 := Lib.hid (S5_L1.out.fr hfN (fun _ _ _ _ h => h))
        clear S5_L1
        have blm_L2 := Lib.hid hx
        clear hx
        have hz_24 : g_m ≤ v_W1.heap.size ∧ v_W1.heap.size ≤ g_m := by omega
        clear hg hbN
        refine hK.out _ _ hHeld (fun _ => ?_)
        clear hK K hfN
        try simp only [Act.put, List.setIfInBounds_toArray, List.set_cons_zero, List.set_cons_succ]
      rotate_left
      focus
        go_simp
        obtain ⟨g_z, hg⟩ : ∃ g, g = v_W1.heap.size := ⟨_, rfl⟩
        have hbN : Below v_W1.heap.size v_W1 (v_W1.alloc (.cells (madeCells #[.int .u8 0] 4) 5)) := (Below.refl _ _).alloc (Nat.le_refl _) _
        have hx := heap_alloc_new v_W1 (.cells (madeCells #[.int .u8 0] 4) 5)
        have hz_26 : v_W1.heap.size + 1 ≤ (v_W1.alloc (.cells (madeCells #[.int .u8 0] 4) 5)).heap.size ∧ (v_W1.alloc (.cells (madeCells #[.int .u8 0] 4) 5)).heap.size ≤ v_W1.heap.size + 1 := by simp
        obtain ⟨v_W2, hw⟩ : ∃ v_W2, v_W2 = v_W1.alloc (.cells (madeCells #[.int .u8 0] 4) 5) := ⟨_, rfl⟩
        rw [← hw] at hbN hx hz_26 ⊢
        clear hw
        rw [← hg] at hx ⊢
        have hHeld := hHeld.trans (hbN.mono hHeld.size)
        have hfN : Fr (fun _ => False) v_W1 v_W2 := Fr.of_below hbN
        have S5_L2 := Lib.hid (S5_L1.out.fr hfN (fun _ _ _ _ h => h))
        clear S5_L1
        have blz_L2 := Lib.hid hx
        clear hx
        have hz_29 : g_z ≤ v_W1.heap.size ∧ v_W1.heap.size ≤ g_z := by omega
        clear hg hbN
        refine hK.out _ _ hHeld (fun _ => ?_)
        clear hK K hfN
        try simp only [Act.put, List.setIfInBounds_toArray, List.set_cons_zero, List.set_cons_succ]
      rotate_left
    |
      refine wpAnyH_ready (rs := [1, 5]) (by kernel_rfl) (by simp) ?_
      refine AllReadyH.cons (o := ⟨some 9, _, _, _, _, _⟩) rfl (fun K hK => ?_) (AllReadyH.cons (o := ⟨some 13, _, _, _, _, _⟩) rfl (fun K hK => ?_) (AllReadyH.nil))
      focus
        go_simp
        obtain ⟨g_m, hg⟩ : ∃ g, g = v_W1.heap.size := ⟨_, rfl⟩
        have hbN : Below v_W1.heap.size v_W1 (v_W1.alloc (.cells #[.int .u8 (m.toNat : Int)] 5)) := (Below.refl _ _).alloc (Nat.le_refl _) _
        have hx := heap_alloc_new v_W1 (.cells #[.int .u8 (m.toNat : Int)] 5)
        have hz_31 : v_W1.heap.size + 1 ≤ (v_W1.alloc (.cells #[.int .u8 (m.toNat : Int)] 5)).heap.size ∧ (v_W1.alloc (.cells #[.int .u8 (m.toNat : Int)] 5)).heap.size ≤ v_W1.heap.size + 1 := by simp
        obtain ⟨v_W2, hw⟩ : ∃ v_W2, v_W2 = v_W1.alloc (.cells #[.int .u8 (m.toNat : Int)] 5) := ⟨_, rfl⟩
        rw [← hw] at hbN hx hz_31 ⊢
        clear hw
        rw [← hg] at hx ⊢
        have hHeld := hHeld.trans (hbN.mono hHeld.size)
        have hfN : Fr (fun _ => False) v_W1 v_W2 := Fr.of_below hbN
        have blz_L2 := Lib.hid (hfN.row_some blz_L1.out (fun h => h))
        clear blz_L1
        have blm_L2 := Lib.hid hx
        clear hx
        have hz_34 : g_m ≤ v_W1.heap.size ∧ v_W1.heap.size ≤ g_m := by omega
        clear hg hbN
        refine hK.out _ _ hHeld (fun _ => ?_)
        clear hK K hfN
        try simp only [Act.put, List.setIfInBounds_toArray, List.set_cons_zero, List.set_cons_succ]
      rotate_left
      focus
        go_simp
        refine (put_yes none 0 0 [] 2 n v_W1 (Sl.nil v_W1 1 0 (by decide)) (by decide) (by decide) (by decide) (by omega)).mono ?_
        rintro e v_W2 ⟨A5, n5, c5, rfl, hs5, hbN⟩
        rw [List.nil_append] at hs5
        have hq5 := hs5.len
        rw [cells_length, le_length] at hq5
        obtain rfl : n5 = 2 := by omega
        have S5_L2 := Lib.hid hs5
        clear hs5 hq5
        go_wp2_with fail
        have hHeld := hHeld.trans (hbN.mono hHeld.size)
        have hfN : Fr (fun _ => False) v_W1 v_W2 := Fr.of_below hbN
        have hz_36 := hbN.size
        have blz_L2 := Lib.hid (hfN.row_some blz_L1.out (fun h => h))
        clear blz_L1
        clear hbN
        refine hK.out _ _ hHeld (fun _ => ?_)
        clear hK K hfN
        try simp only [Act.put, List.setIfInBounds_toArray, List.set_cons_zero, List.set_cons_succ]
      rotate_left
  all_goals first
    |
      refine wpAnyH_ready (rs := [6]) (by kernel_rfl) (by simp) ?_
      refine AllReadyH.cons (o := ⟨some 14, _, _, _, _, _⟩) rfl (fun K hK => ?_) (AllReadyH.nil)
      go_simp
      obtain ⟨g_z, hg⟩ : ∃ g, g = v_W2.heap.size := ⟨_, rfl⟩
      have hbN : Below v_W2.heap.size v_W2 (v_W2.alloc (.cells (madeCells #[.int .u8 0] 4) 5)) := (Below.refl _ _).alloc (Nat.le_refl _) _
      have hx := heap_alloc_new v_W2 (.cells (madeCells #[.int .u8 0] 4) 5)
      have hz_39 : v_W2.heap.size + 1 ≤ (v_W2.alloc (.cells (madeCells #[.int .u8 0] 4) 5)).heap.size ∧ (v_W2.alloc (.cells (madeCells #[.int .u8 0] 4) 5)).heap.size ≤ v_W2.heap.size + 1 := by simp
      obtain ⟨v_W3, hw⟩ : ∃ v_W3, v_W3 = v_W2.alloc (.cells (madeCells #[.int .u8 0] 4) 5) := ⟨_, rfl⟩
      rw [← hw] at hbN hx hz_39 ⊢
      clear hw
      rw [← hg] at hx ⊢
      have hHeld := hHeld.trans (hbN.mono hHeld.size)
      have hfN : Fr (fun _ => False) v_W2 v_W3 := Fr.of_below hbN
      have blm_L3 := Lib.hid (hfN.row_some blm_L2.out (fun h => h))
      clear blm_L2
      have S5_L3 := Lib.hid (S5_L2.out.fr hfN (fun _ _ _ _ h => h))
      clear S5_L2
      have blz_L3 := Lib.hid hx
      clear hx
      have hz_43 : g_z ≤ v_W2.heap.size ∧ v_W2.heap.size ≤ g_z := by omega
      clear hg hbN
      refine hK.out _ _ hHeld (fun _ => ?_)
      clear hK K hfN
      try simp only [Act.put, List.setIfInBounds_toArray, List.set_cons_zero, List.set_cons_succ]
    |
      refine wpAnyH_ready (rs := [5]) (by kernel_rfl) (by simp) ?_
      refine AllReadyH.cons (o := ⟨some 13, _, _, _, _, _⟩) rfl (fun K hK => ?_) (AllReadyH.nil)
      go_simp
      refine (put_yes none 0 0 [] 2 n v_W2 (Sl.nil v_W2 1 0 (by decide)) (by decide) (by decide) (by decide) (by omega)).mono ?_
      rintro e v_W3 ⟨A5, n5, c5, rfl, hs5, hbN⟩
      rw [List.nil_append] at hs5
      have hq5 := hs5.len
      rw [cells_length, le_length] at hq5
      obtain rfl : n5 = 2 := by omega
      have S5_L3 := Lib.hid hs5
      clear hs5 hq5
      go_wp2_with fail
      have hHeld := hHeld.trans (hbN.mono hHeld.size)
      have hfN : Fr (fun _ => False) v_W2 v_W3 := Fr.of_below hbN
      have hz_45 := hbN.size
      have blm_L3 := Lib.hid (hfN.row_some blm_L2.out (fun h => h))
      clear blm_L2
      have blz_L3 := Lib.hid (hfN.row_some blz_L2.out (fun h => h))
      clear blz_L2
      clear hbN
      refine hK.out _ _ hHeld (fun _ => ?_)
      clear hK K hfN
      try simp only [Act.put, List.setIfInBounds_toArray, List.set_cons_zero, List.set_cons_succ]
    |
      refine wpAnyH_ready (rs := [1]) (by kernel_rfl) (by simp) ?_
      refine AllReadyH.cons (o := ⟨some 9, _, _, _, _, _⟩) rfl (fun K hK => ?_) (AllReadyH.nil)
      go_simp
      obtain ⟨g_m, hg⟩ : ∃ g, g = v_W2.heap.size := ⟨_, rfl⟩
      have hbN : Below v_W2.heap.size v_W2 (v_W2.alloc (.cells #[.int .u8 (m.toNat : Int)] 5)) := (Below.refl _ _).alloc (Nat.le_refl _) _
      have hx := heap_alloc_new v_W2 (.cells #[.int .u8 (m.toNat : Int)] 5)
      have hz_49 : v_W2.heap.size + 1 ≤ (v_W2.alloc (.cells #[.int .u8 (m.toNat : Int)] 5)).heap.size ∧ (v_W2.alloc (.cells #[.int .u8 (m.toNat : Int)] 5)).heap.size ≤ v_W2.heap.size + 1 := by simp
      obtain ⟨v_W3, hw⟩ : ∃ v_W3, v_W3 = v_W2.alloc (.cells #[.int .u8 (m.toNat : Int)] 5) := ⟨_, rfl⟩
      rw [← hw] at hbN hx hz_49 ⊢
      clear hw
      rw [← hg] at hx ⊢
      have hHeld := hHeld.trans (hbN.mono hHeld.size)
      have hfN : Fr (fun _ => False) v_W2 v_W3 := Fr.of_below hbN
      have S5_L3 := Lib.hid (S5_L2.out.fr hfN (fun _ _ _ _ h => h))
      clear S5_L2
      have blz_L3 := Lib.hid (hfN.row_some blz_L2.out (fun h => h))
      clear blz_L2
      have blm_L3 := Lib.hid hx
      clear hx
      have hz_53 : g_m ≤ v_W2.heap.size ∧ v_W2.heap.size ≤ g_m := by omega
      clear hg hbN
      refine hK.out _ _ hHeld (fun _ => ?_)
      clear hK K hfN
      try simp only [Act.put, List.setIfInBounds_toArray, List.set_cons_zero, List.set_cons_succ]
  all_goals
    refine wpAnyH_ready (rs := [8]) (by kernel_rfl) (by simp) ?_
    refine AllReadyH.cons (o := ⟨some 16, _, _, _, _, _⟩) rfl (fun K hK => ?_) (AllReadyH.nil)
    go_simp
    obtain ⟨g_g, hg⟩ : ∃ g, g = v_W3.heap.size := ⟨_, rfl⟩
    have hbN : Below v_W3.heap.size v_W3 (v_W3.alloc (.cells #[.slice (some ⟨g_m, 0, none⟩) 1 1, .slice A5 2 c5, .slice (some ⟨g_z, 0, none⟩) 4 4, .slice A n c] 26)) := (Below.refl _ _).alloc (Nat.le_refl _) _
    have hx := heap_alloc_new v_W3 (.cells #[.slice (some ⟨g_m, 0, none⟩) 1 1, .slice A5 2 c5, .slice (some ⟨g_z, 0, none⟩) 4 4, .slice A n c] 26)
    have hz_55 : v_W3.heap.size + 1 ≤ (v_W3.alloc (.cells #[.slice (some ⟨g_m, 0, none⟩) 1 1, .slice A5 2 c5, .slice (some ⟨g_z, 0, none⟩) 4 4, .slice A n c] 26)).heap.size ∧ (v_W3.alloc (.cells #[.slice (some ⟨g_m, 0, none⟩) 1 1, .slice A5 2 c5, .slice (some ⟨g_z, 0, none⟩) 4 4, .slice A n c] 26)).heap.size ≤ v_W3.heap.size + 1 := by simp
    obtain ⟨v_W4, hw⟩ : ∃ v_W4, v_W4 = v_W3.alloc (.cells #[.slice (some ⟨g_m, 0, none⟩) 1 1, .slice A5 2 c5, .slice (some ⟨g_z, 0, none⟩) 4 4, .slice A n c] 26) := ⟨_, rfl⟩
    rw [← hw] at hbN hx hz_55 ⊢
    clear hw
    rw [← hg] at hx ⊢
    have hHeld := hHeld.trans (hbN.mono hHeld.size)
    have hfN : Fr (fun _ => False) v_W3 v_W4 := Fr.of_below hbN
    have blm_L4 := Lib.hid (hfN.row_some blm_L3.out (fun h => h))
    clear blm_L3
    have S5_L4 := Lib.hid (S5_L3.out.fr hfN (fun _ _ _ _ h => h))
    clear S5_L3
    have blz_L4 := Lib.hid (hfN.row_some blz_L3.out (fun h => h))
    clear blz_L3
    have blg_L4 := Lib.hid hx
    clear hx
    have hz_60 : g_g ≤ v_W3.heap.size ∧ v_W3.heap.size ≤ g_g := by omega
    clear hg hbN
    refine hK.out _ _ hHeld (fun _ => ?_)
    clear hK K hfN
    try simp only [Act.put, List.setIfInBounds_toArray, List.set_cons_zero, List.set_cons_succ]
  all_goals
    refine wpAnyH_ready (rs := [9]) (by kernel_rfl) (by simp) ?_
    refine AllReadyH.cons (o := ⟨some 17, _, _, _, _, _⟩) rfl (fun K hK => ?_) (AllReadyH.nil)
    go_simp
    have hgr : Gr v_W4 (some ⟨g_g, 0, none⟩) 4 4 [[m], le 2 t.length, List.replicate 4 0, t] := by
      have hz := HL.out
      rw [hz]
      refine ⟨⟨[.slice (some ⟨g_m, 0, none⟩) 1 1, .slice A5 2 c5, .slice (some ⟨g_z, 0, none⟩) 4 4, .slice A n c], ⟨rfl, Nat.le_refl _, by decide, fun j u hu => ⟨g_g, 0, rfl, ?_⟩⟩, ?_⟩, rfl⟩
      · rw [cell_of_row _ _ _ _ _ _ blg_L4.out, Nat.zero_add]
        simpa using hu
      · intro i r hi
        rcases i with _ | _ | _ | _ | i
        · simp only [List.getElem?_cons_zero, Option.some.injEq] at hi
          subst hi
          refine ⟨_, 1, rfl, rfl, Nat.le_refl _, by decide, fun j u hu => ⟨g_m, 0, rfl, ?_⟩⟩
          rw [cell_of_row _ _ _ _ _ _ blm_L4.out, Nat.zero_add]
          simpa [cells, bv] using hu
        · simp only [List.getElem?_cons_succ, List.getElem?_cons_zero, Option.some.injEq] at hi
          subst hi
          rw [le_length]
          exact ⟨A5, c5, rfl, S5_L4.out⟩
        · simp only [List.getElem?_cons_succ, List.getElem?_cons_zero, Option.some.injEq] at hi
          subst hi
          refine ⟨some ⟨g_z, 0, none⟩, 4, rfl, rfl, Nat.le_refl _, by decide, fun j u hu => ⟨g_z, 0, rfl, ?_⟩⟩
          rw [cell_of_row _ _ _ _ _ _ blz_L4.out, Nat.zero_add, ← Array.getElem?_toList, toList_madeCells_one]
          rw [← hu]
          simp [cells, bv]
        · simp only [List.getElem?_cons_succ, List.getElem?_cons_zero, Option.some.injEq] at hi
          subst hi
          exact ⟨A, c, by rw [hz]; rfl, by rw [hz]; exact HS.out.below hHeld (Nat.le_refl _)⟩
        · simp at hi
    have hfl : [[m], le 2 t.length, List.replicate 4 0, t].flatten.length = 7 + n := by simp [le_length, HL.out]; omega
    have hcc := concat17 (some ⟨g_g, 0, none⟩) 4 4 _ v_W4 hgr (by rw [hfl]; omega) (by rw [hfl]; omega) (by decide)
    rw [pc_flat] at hcc
    clear hgr hfl
    refine hcc.mono ?_; clear hcc
    rintro e v_W5 ⟨A9, n9, c9, rfl, hs9, hm9, hbN⟩
    have S9 := Lib.hid hs9
    have M9 := Lib.hid (hm9.lower hHeld.size)
    clear hs9 hm9
    go_wp2_with fail
    have hHeld := hHeld.trans (hbN.mono hHeld.size)
    have hfN : Fr (fun _ => False) v_W4 v_W5 := Fr.of_below hbN
    have hz_62 := hbN.size
    have blm_L5 := Lib.hid (hfN.row_some blm_L4.out (fun h => h))
    clear blm_L4
    have S5_L5 := Lib.hid (S5_L4.out.fr hfN (fun _ _ _ _ h => h))
    clear S5_L4
    have blz_L5 := Lib.hid (hfN.row_some blz_L4.out (fun h => h))
    clear blz_L4
    have blg_L5 := Lib.hid (hfN.row_some blg_L4.out (fun h => h))
    clear blg_L4
    clear hbN
    refine hK.out _ _ hHeld (fun _ => ?_)
    clear hK K hfN
    try simp only [Act.put, List.setIfInBounds_toArray, List.set_cons_zero, List.set_cons_succ]
    refine wpAnyH_take (i := 10) (oi := ⟨some 7, _, _, _, _, _⟩) rfl (by kernel_rfl) (by kernel_rfl) (by kernel_rfl) (fun _ _ _ h => h) (Or.inl ⟨by rfl, by
      intro wq hSw
      (try dsimp only at hSw)
      first | (go_simp; done) | (go_simp; with_reducible rfl)⟩) hHeld ?_
    try simp only [Act.put, List.setIfInBounds_toArray, List.set_cons_zero, List.set_cons_succ]
  all_goals
    refine wpAnyH_done (by kernel_rfl) ?_ _
    have L9 := Lib.hid (show n9 = n + 7 from by have h1 := S9.out.len; have h2 := HL.out; rw [cells_length, List.length_append, List.length_append, hdF_len, List.length_replicate] at h1; omega)
    have N9 := Lib.hid (NT.out.keep hHeld)
    have B9 := Lib.hid hHeld
    have DD := Lib.hid (pc_done m t s _ rfl)
    obtain ⟨d, hd⟩ : ∃ d, d = hdF m t ++ List.replicate 4 0 ++ t := ⟨_, rfl⟩
    rw [← hd] at S9 M9 DD
    have DL := Lib.hid (show d.length = n9 from by have := S9.out.len; rw [cells_length, Nat.mul_one] at this; exact this)
    obtain ⟨g9, cur, rfl, hge, -⟩ := M9.out (by have := L9.out; omega)
    have G9 := Lib.hid hge
    clear hge
    have hcap := S9.out.cap
    have htop := S9.out.top
    unfold maxLen at htop
    have h7 : 7 ≤ n9 := by have := L9.out; omega
    have q1 : (3 : Int) ≤ (n9 : Int) := by omega
    have q2 : ¬ (c9 : Int) = 3 := by omega
    have q3 : ¬ c9 = 3 := by omega
    go_wp2_with fail
    have S9 := Lib.hid S9.out.drew
    have N9 := Lib.hid (N9.out.keep (Below.drew (Below.refl _ _)))
    have M9 := Lib.hid (M9.out.later (Below.drew (Below.refl _ _)))
    have B9 := Lib.hid (B9.out.trans ((Below.drew (Below.refl _ _)).mono B9.out.size))
    refine wp_region_held_drew (S := fun w' => Fr (fun k => k = g9) v_W5 w') (by kernel_rfl) (Fr.drew (Fr.refl _ _)) (fun hHeld => ?_)
    clear hHeld
    have hHeld : Fr (fun k => k = g9) v_W5 v_W5.drew := Fr.drew (Fr.refl _ _)
    have hz_0 : v_W5.heap.size ≤ v_W5.drew.heap.size := Nat.le_refl _
    obtain ⟨v_W0, hw⟩ : ∃ v_W0, v_W0 = v_W5.drew := ⟨_, rfl⟩
    rw [← hw] at hHeld hz_0 S9 N9 M9 B9 ⊢
    clear hw
    refine wpAnyH_take (i := 0) (oi := ⟨some 18, _, _, _, _, _⟩) rfl (by kernel_rfl) (by kernel_rfl) (by kernel_rfl) (fun _ _ _ h => h) (Or.inl ⟨by rfl, by
      intro wq hSw
      (try dsimp only at hSw)
      first | (go_simp; done) | (go_simp; with_reducible rfl)⟩) hHeld ?_
    try simp only [Act.put, List.setIfInBounds_toArray, List.set_cons_zero, List.set_cons_succ]
    refine wpAnyH_take (i := 1) (oi := ⟨some 19, _, _, _, _, _⟩) rfl (by kernel_rfl) (by kernel_rfl) (by kernel_rfl) (fun _ _ _ h => h) (Or.inl ⟨by rfl, by
      intro wq hSw
      (try dsimp only at hSw)
      first | (go_simp; done) | (go_simp; with_reducible rfl)⟩) hHeld ?_
    try simp only [Act.put, List.setIfInBounds_toArray, List.set_cons_zero, List.set_cons_succ]
    refine wpAnyH_take (i := 2) (oi := ⟨some 20, _, _, _, _, _⟩) rfl (by kernel_rfl) (by kernel_rfl) (by kernel_rfl) (fun _ _ _ h => h) (Or.inl ⟨by rfl, by
      intro wq hSw
      (try dsimp only at hSw)
      first | (go_simp; done) | (go_simp; with_reducible rfl)⟩) hHeld ?_
    try simp only [Act.put, List.setIfInBounds_toArray, List.set_cons_zero, List.set_cons_succ]
    refine wpAnyH_take (i := 3) (oi := ⟨some 21, _, _, _, _, _⟩) rfl (by kernel_rfl) (by kernel_rfl) (by kernel_rfl) (fun _ _ _ h => h) (Or.inl ⟨by rfl, by
      intro wq hSw
      (try dsimp only at hSw)
      first | (go_simp; done) | (go_simp; with_reducible rfl)⟩) hHeld ?_
    try simp only [Act.put, List.setIfInBounds_toArray, List.set_cons_zero, List.set_cons_succ]
    refine wpAnyH_ready (rs := [4]) (by kernel_rfl) (by simp) ?_
    refine AllReadyH.cons (o := ⟨some 22, _, _, _, _, _⟩) rfl (fun K hK => ?_) (AllReadyH.nil)
    go_simp
    refine (summed17_any _ n9 c9 d s v_W0 S9.out h7 N9.out).mono ?_; rintro e w1 ⟨rfl, hb1⟩
    have hfN : Fr (fun k => k = g9) v_W0 w1 := Fr.of_below hb1
    have B1 := Lib.hid (B9.out.trans (hb1.mono B9.out.size))
    have M1 := Lib.hid (M9.out.later hb1)
    have y1 := (smP s d).isLt
    obtain ⟨y, hy⟩ : ∃ y, y = (smP s d).toNat := ⟨_, rfl⟩
    rw [← hy] at y1 DD ⊢
    have e3 : IntKind.u64.wrap (y : Int) = (y : Int) := by rw [IntKind.wrap_u64]; omega
    clear hb1 hy
    go_wp2_with fail
    have hHeld := hHeld.trans hfN
    have hz_2 := hfN.size
    refine hK.out _ _ hHeld (fun _ => ?_)
    clear hK K hfN
    try simp only [Act.put, List.setIfInBounds_toArray, List.set_cons_zero, List.set_cons_succ]
    refine wpAnyH_take (i := 5) (oi := ⟨some 23, _, _, _, _, _⟩) rfl (by kernel_rfl) (by kernel_rfl) (by kernel_rfl) (fun _ _ _ h => h) (Or.inl ⟨by rfl, by
      intro wq hSw
      (try dsimp only at hSw)
      first | (go_simp; done) | (go_simp; with_reducible rfl)⟩) hHeld ?_
    try simp only [Act.put, List.setIfInBounds_toArray, List.set_cons_zero, List.set_cons_succ]
    all_goals
      refine wpAnyH_ready (rs := [6]) (by kernel_rfl) (by simp) ?_
      refine AllReadyH.cons (o := ⟨some 24, _, _, _, _, _⟩) rfl (fun K hK => ?_) (AllReadyH.nil)
      go_simp
      refine (put_yes none 0 0 [] 4 y w1 (Sl.nil w1 1 0 (by decide)) (by decide) (by decide) (by decide) (by omega)).mono ?_; rintro e w2 ⟨A5, n5, c5, rfl, hs5, hb5⟩
      have hfN : Fr (fun k => k = g9) w1 w2 := Fr.of_below hb5
      rw [List.nil_append] at hs5
      have hq5 := hs5.len
      rw [cells_length, le_length] at hq5
      obtain rfl : n5 = 4 := by omega
      have S5 := Lib.hid hs5
      have B2 := Lib.hid (B1.out.trans (hb5.mono B1.out.size))
      have M2 := Lib.hid (M1.out.later hb5)
      clear hs5 hb5 hq5
      go_wp2_with fail
      have hHeld := hHeld.trans hfN
      have hz_3 := hfN.size
      refine hK.out _ _ hHeld (fun _ => ?_)
      clear hK K hfN
      try simp only [Act.put, List.setIfInBounds_toArray, List.set_cons_zero, List.set_cons_succ]
    all_goals
      refine wpAnyH_ready (rs := [7]) (by kernel_rfl) (by simp) ?_
      refine AllReadyH.cons (o := ⟨some 25, _, _, _, _, _⟩) rfl (fun K hK => ?_) (AllReadyH.nil)
      go_simp
      obtain ⟨w3, hcp, hm3, hf3⟩ := run_copy_part (k := 3) (cd := c9 - 3) M2.out DL.out S5.out (by decide) (by omega) 3
      have hfN : Fr (fun k => k = g9) w2 w3 := hf3
      have M3 := Lib.hid hm3
      have B3 := Lib.hid (B2.out.trans (hf3.below B2.out.size (fun k hk => by have hk : k = g9 := hk; have := G9.out; omega)))
      clear hm3 hf3
      go_simp
      clear hcp
      have hHeld := hHeld.trans hfN
      have hz_4 := hfN.size
      refine hK.out _ _ hHeld (fun _ => ?_)
      clear hK K hfN
      try simp only [Act.put, List.setIfInBounds_toArray, List.set_cons_zero, List.set_cons_succ]
    all_goals
      refine wpAnyH_done (by kernel_rfl) ?_ _
      go_wp2_with fail
      go_ret
      have hm := M3.out
      rw [DD.out] at hm
      exact ⟨_, n9, c9, rfl, hm.sl (by rw [pcF_len, HL.out, L9.out]) hcap (by unfold maxLen; omega), B3.out, hm⟩
theorem piece_at (z : Int) (m : UInt8) (hz : z = (m.toNat : Int)) (A : Option Addr) (n c : Nat) (t : List UInt8) (s : W32) (w : World) (h : Sl w 1 A n c (cells t)) (hn : n ≤ 65535) (hN : Nt w) :
    Calls Tryd.prog 24 #[.int .u8 z, .slice A n c, .int .u32 (s.toNat : Int)] w (RetMine w.heap.size w (pcF m t s)) := by
  subst hz
  exact piece_any m A n c t s w h hn hN
end Go.Proofs.YtpijfghklgmefaaDoor

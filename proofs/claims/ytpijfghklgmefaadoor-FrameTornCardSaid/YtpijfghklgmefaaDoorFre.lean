/-
  Contract of package frame's Join. Conditions: bounds; of sums: the table reads as the row lists it ('Nt'). (Written by gen_fre.py.)
-/
import Derived.Test.YtpijfghklgmefaaDoorFrd
import Derived.WalkMore
namespace Go.Proofs.YtpijfghklgmefaaDoor
open Go.RowKit Go.Proofs
set_option linter.unusedVariables false
set_option maxRecDepth 20000
set_option maxHeartbeats 3200000

/-- Bytes that grow: no slice, or a row of the call's own. -/
structure Gro (w : World) (B : Nat) (A : Option Addr) (n c : Nat) (l : List UInt8) : Prop where
  sl : Sl w 1 A n c (cells l)
  own : (n = 0 ∧ c = 0) ∨ w.ownsRow B 5 1 (.slice A n c) n (cells l)
theorem Gro.nil (w : World) (B : Nat) : Gro w B none 0 0 [] := ⟨Sl.nil w 1 0 (by decide), .inl ⟨rfl, rfl⟩⟩
theorem Gro.later {w w' : World} {B n c : Nat} {A : Option Addr} {l : List UInt8} (h : Gro w B A n c l) (hb : Below w.heap.size w w') : Gro w' B A n c l := ⟨h.sl.below hb (Nat.le_refl _), h.own.imp id fun k => ownsRow_below k hb⟩
theorem Gro.low {w : World} {B n c : Nat} {A : Option Addr} {l : List UInt8} (h : Gro w B A n c l) : ∀ b o, 0 < n → A = some ⟨b, o, none⟩ → B ≤ b := fun b o hn e => by
  rcases h.own with ⟨h2, _⟩ | h2
  · omega
  · obtain ⟨g, cur, e', hB, _⟩ := Mine.of_own h2 hn
    rw [e] at e'
    injection e' with e'
    injection e' with e' _
    omega
theorem Gro.append {w : World} {B n c m : Nat} {A A2 : Option Addr} {c2 : Nat} {l ys : List UInt8} (h : Gro w B A n c l) (hB : B ≤ w.heap.size) (hs : Sl w 1 A2 m c2 (cells ys)) (h47 : n + m ≤ 140737488355328) (ty : TypeId) :
    ∃ A' c' w', (Builtin.append_ #[26, 26] ty #[.slice A n c, .slice A2 m c2]).run Tryd.prog w = .ok (.slice A' (n + m) c') w' ∧ Gro w' B A' (n + m) c' (l ++ ys) ∧ Below B w w' := by
  obtain ⟨i0, hi, hz0, hz1, hz2⟩ := info_parts info_u8
  by_cases hm : m = 0
  · subst hm
    have hy : ys = [] := List.eq_nil_of_length_eq_zero (by have := hs.len; rw [cells_length] at this; omega)
    subst hy
    have hsr := hs.src (P := Tryd.prog) Tryd.underlying26 (by decide) (cells_one [])
    exact ⟨A, c, w, run_append_nothing w 26 26 ty 5 i0 Tryd.underlying26 hi A n c h.sl.cap _ (by rw [hz1]; exact hsr), by rw [List.append_nil]; exact h, Below.refl _ _⟩
  · have ho : Own w B 5 1 A n c (cells l) := ⟨h.sl, h.own.imp (fun k => by omega) id⟩
    obtain ⟨A', c', w', hr, h2, h3, h4⟩ := run_append_mine (P := Tryd.prog) 26 26 ty i0 (.int .u8 0) 1 Tryd.underlying26 hi hz0 hz1 hz2 rfl (by decide) ho hB (.slice A2 m c2) m (cells ys) (hs.src Tryd.underlying26 (by decide) (cells_one ys)) (by unfold maxLen; omega) (by omega)
    rw [← cells_append] at h2 h4
    exact ⟨A', c', w', hr, ⟨h2.sl, .inr (h4 (by omega))⟩, h3⟩
theorem wp_append_gro {w : World} {B n c : Nat} {A : Option Addr} {l : List UInt8} {o : Oper} {a : Act} {K : Act → World → Prop} {Q : Exit → Act → World → Prop} (s x : Operand)
    (ho : o.op = .call { callee := .builtin .append, args := #[s, x], argTypes := #[26, 26] })
    (hv : a.eval s = .slice A n c) (h : Gro w B A n c l) (hB : B ≤ w.heap.size) (A2 : Option Addr) (m c2 : Nat) (ys : List UInt8) (hx : a.eval x = .slice A2 m c2) (hs : Sl w 1 A2 m c2 (cells ys)) (h47 : n + m ≤ 140737488355328)
    (hk : ∀ A' c' w', Gro w' B A' (n + m) c' (l ++ ys) → Below B w w' → K (a.put o.dst (.slice A' (n + m) c')) w') : o.wp Tryd.prog a w K Q := by
  obtain ⟨A', c', w', hr, h2, h3⟩ := h.append hB hs h47 o.type
  unfold Oper.wp execOp
  simp only [ho, resolve, invoke, builtin, Sem.run_bind, Sem.run_pure, Result.andThen_ok, List.map_toArray, List.map_cons, List.map_nil, hv, hx, hr]
  exact hk A' c' w' h2 h3
theorem wpList_append_gro {w : World} {B n c : Nat} {A : Option Addr} {l : List UInt8} {ops : Array Oper} {rest : List Oper} {o : Oper} {a : Act} {Q : Exit → Act → World → Prop} (hgd : o.guard = none) (s x : Operand)
    (ho : o.op = .call { callee := .builtin .append, args := #[s, x], argTypes := #[26, 26] })
    (hv : a.eval s = .slice A n c) (h : Gro w B A n c l) (hB : B ≤ w.heap.size) (A2 : Option Addr) (m c2 : Nat) (ys : List UInt8) (hx : a.eval x = .slice A2 m c2) (hs : Sl w 1 A2 m c2 (cells ys)) (h47 : n + m ≤ 140737488355328)
    (hk : ∀ A' c' w', Gro w' B A' (n + m) c' (l ++ ys) → Below B w w' → wpList Tryd.prog ops Q rest (a.put o.dst (.slice A' (n + m) c')) w') : wpList Tryd.prog ops Q (o :: rest) a w :=
  wpList_plain hgd fun _ hK => wp_append_gro s x ho hv h hB A2 m c2 ys hx hs h47 fun A' c' w' h1 h2 => hK _ _ (hk A' c' w' h1 h2)
theorem formed_at (b a : Bool) (hb : b = a) (A : Option Addr) (n c : Nat) (l : List UInt8) (w : World) (h : Sl w 1 A n c (cells l)) :
    Calls Tryd.prog 26 #[.slice A n c, .bool b] w fun e w' => e = .returned (.bool (fmB l a)) ∧ w = w' := by
  subst hb
  exact formed_any A n c l b w h
theorem flat_get17 {rs : List (List UInt8)} {i : Nat} {r : List UInt8} (h : rs[i]? = some r) : (rs.take (i + 1)).flatten.length = (rs.take i).flatten.length + r.length := by rw [flatten_take_snoc h, List.length_append]
theorem drop_at {rs : List (List UInt8)} {i : Nat} {r : List UInt8} (h : rs[i]? = some r) : rs.drop i = r :: rs.drop (i + 1) := by
  obtain ⟨hi, he⟩ := List.getElem?_eq_some_iff.1 h
  rw [List.drop_eq_getElem_cons hi, he]
theorem Below.frUp {B : Nat} {w w' : World} (hb : Below B w w') : Fr (fun k => B ≤ k) w w' := ⟨hb.os, hb.tape, hb.output, hb.size, fun k hk hs => hb.block k (Nat.lt_of_not_le hs)⟩
/-- What Join answers. -/
def RetJoin (w : World) (x : List UInt8 × Nat × Nat) (e : Ending) (w' : World) : Prop :=
  ∃ A c, e = .returned (.tuple #[.slice A x.1.length c, .int .i64 (x.2.1 : Int), .int .i64 (x.2.2 : Int)]) ∧ Sl w' 1 A x.1.length c (cells x.1) ∧ Below w.heap.size w w' ∧ ∀ b o, 0 < x.1.length → A = some ⟨b, o, none⟩ → w.heap.size ≤ b
theorem join17_any (A : Option Addr) (n c : Nat) (rs : List (List UInt8)) (w : World) (h : Gr w A n c rs) (hb : rs.flatten.length ≤ 1000000) (hn : n ≤ 1000000) (hN : Nt w) :
    Calls Tryd.prog 12 #[.slice A n c] w (RetJoin w (joinF rs)) := by
  have HH := Lib.hid h
  have NN := Lib.hid hN
  have HB := Lib.hid hb
  clear h hN hb
  go_enter Tryd.func12, Tryd.ntmps12
  go_wp2_with fail
  go_step3
  go_wp2_with fail
  go_step3
  go_wp2_with fail
  go_loopg [5, 6, 7, 12] n (fun gk tv sv fv iv wr => ∃ (i : Nat) (s : W32) (acc : List UInt8) (A5 : Option Addr) (c5 : Nat), tv = .slice A5 acc.length c5 ∧ sv = .int .u32 (s.toNat : Int) ∧ fv = .int .i64 170 ∧ iv = .int .i64 (i : Int) ∧ i ≤ n ∧ n - i ≤ gk ∧ Gro wr w.heap.size A5 acc.length c5 acc ∧ Below w.heap.size w wr ∧ joinL s (decide (i = 0)) acc i (rs.drop i) = joinF rs ∧ acc.length ≤ (rs.take i).flatten.length)
  case atStart => exact ⟨0, 0, [], none, 0, rfl, rfl, rfl, rfl, by omega, by omega, Gro.nil _ _, Below.refl _ _, rfl, by simp⟩
  case round =>
    obtain ⟨G, hG⟩ : ∃ x, x = gk := ⟨_, rfl⟩
    subst hG
    obtain ⟨i, s, acc, A5, c5, htv, hsv, hfv, hiv, hi, hgk, hgr, hbe, hj, hac⟩ := hrel
    subst htv hsv hfv hiv
    have GR := Lib.hid hgr
    have BE := Lib.hid hbe
    clear hgr hbe
    by_cases hlt : i < n
    · have hii : (i : Int) < (n : Int) := by omega
      obtain ⟨b, o, rfl, hcc⟩ := HH.out.at_ (by omega)
      have hget := HH.out.get hlt
      obtain ⟨p, hp⟩ : ∃ r, r = rs.getD i [] := ⟨_, rfl⟩
      rw [← hp] at hget
      obtain ⟨A1, c1, hc1, hs1⟩ := hcc i p hget
      have S0 := Lib.hid hs1
      have hs1 := hs1.below BE.out (Nat.le_refl _)
      have hc1 := (BE.out.cell (World.block_lt_of_cell? w _ hc1)).trans hc1
      rw [drop_at hget, joinL] at hj
      have hfl := flat_get17 hget
      have hft := flatten_take_len rs (i + 1)
      have hacp : acc.length + p.length ≤ 1000000 := by have := HB.out; omega
      have HAC := Lib.hid (show acc.length + p.length ≤ (rs.take (i + 1)).flatten.length from by omega)
      obtain ⟨a0, ha0⟩ : ∃ x, x = decide (i = 0) := ⟨_, rfl⟩
      have ha1 : ((i : Int) == 0) = a0 := by
        rw [ha0]
        by_cases hz : i = 0
        · subst hz; rfl
        · rw [decide_eq_false hz, beq_eq_false_iff_ne]; omega
      have hfo := formed_at ((i : Int) == 0) a0 ha1 A1 p.length c1 p wr hs1
      rw [← ha0] at hj
      have S1 := Lib.hid hs1
      clear hget hp hfl hft hcc hs1 hac ha0 ha1
      by_cases hfm : fmB p a0 = true
      · rw [hfm] at hfo
        rw [hfm, if_neg (by decide)] at hj
        have h7 : 7 ≤ p.length := by
          unfold fmB at hfm
          rw [Bool.and_eq_true] at hfm
          exact of_decide_eq_true hfm.1
        have htd := told_any A1 p.length c1 p wr S1.out h7
        have hsm := summed17_any A1 p.length c1 p s wr S1.out h7 (NN.out.keep BE.out)
        obtain ⟨td, htd0⟩ : ∃ x, x = tdF p := ⟨_, rfl⟩
        obtain ⟨sm, hsm0⟩ : ∃ x, x = smP s p := ⟨_, rfl⟩
        rw [← htd0] at htd
        rw [← hsm0] at hsm
        rw [← htd0, ← hsm0] at hj
        have TD0 := Lib.hid htd0
        have HJ := Lib.hid hj
        clear hj hfm htd0 hsm0
        go_wp2_with fail
        refine hfo.mono ?_; clear hfo; rintro e w1 ⟨rfl, hw1⟩
        obtain rfl := hw1
        go_wp2_with fail
        refine htd.mono ?_; clear htd; rintro e w1 ⟨rfl, hw1⟩
        obtain rfl := hw1
        go_wp2_with fail
        refine hsm.mono ?_; clear hsm; rintro e w1 ⟨rfl, hb1⟩
        have B1 := Lib.hid (BE.out.trans (hb1.mono BE.out.size))
        have GR1 := Lib.hid (GR.out.later hb1)
        have S1' := Lib.hid (S1.out.below hb1 (Nat.le_refl _))
        clear hb1 hc1
        by_cases hts : td = sm
        · have HJ1 := HJ.out
          rw [if_neg (fun hh => hh hts)] at HJ1
          have qt : ((td.toNat : Int) != (sm.toNat : Int)) = false := by rw [hts]; simp
          have HJ := Lib.hid HJ1
          clear HJ1
          have hsl := S1'.out.sub17 7 p.length h7 (Nat.le_refl _)
          rw [List.take_of_length_le (by rw [List.length_drop]; exact Nat.le_refl _)] at hsl
          have q7 : (7 : Int) ≤ (p.length : Int) := by omega
          have hz1 := B1.out.size
          have hcell : ∃ u : UInt8, p[0]? = some u := ⟨p[0], List.getElem?_eq_getElem (by omega)⟩
          obtain ⟨u, hu⟩ := hcell
          obtain ⟨b7, o7, hA7, hc7⟩ := S0.out.at_ (k := 0) (by omega)
          have hc70 : w.cell? ⟨b7, o7, none⟩ = some (.int .u8 (u.toNat : Int)) := by
            have := hc7 0 (bv u) (by simp [cells, hu])
            rwa [Nat.add_zero] at this
          have C70 := Lib.hid hc70
          have HA7 := Lib.hid hA7
          have LSB := Lib.hid (show lsB p = decide (u &&& 2 ≠ 0) from by rw [lsB, List.getD_eq_getElem?_getD, hu, Option.getD_some])
          clear hc70 hc7 hA7 hu hts
          by_cases hc17 : c1 = 7
          · subst hc17
            rw [if_pos rfl] at hsl
            have SL := Lib.hid hsl
            clear hsl
            go_wp2_with fail
            refine wp_region_held_drew (S := fun w' => Fr (fun k => w.heap.size ≤ k) w1.drew w') (by kernel_rfl) (Fr.refl _ _) (fun hHeld => ?_)
            clear hHeld
            refine wpAnyH_take (i := 0) (oi := ⟨some 30, _, _, _, _, _⟩) (v := ?vra0) rfl (by kernel_rfl) (by kernel_rfl) (by kernel_rfl) (fun _ _ _ h => h) (Or.inl ⟨by rfl, ?yra0⟩) (Fr.refl _ _) ?rra0
            case yra0 =>
              intro wq hSw
              (try dsimp only at hSw)
              first | (go_simp; done) | (go_simp; with_reducible rfl)
            try simp only [Act.put, List.setIfInBounds_toArray, List.set_cons_zero, List.set_cons_succ]
            refine wpAnyH_take (i := 2) (oi := ⟨some 32, _, _, _, _, _⟩) (v := ?vra2) rfl (by kernel_rfl) (by kernel_rfl) (by kernel_rfl) (fun _ _ _ h => h) (Or.inl ⟨by rfl, ?yra2⟩) (Fr.refl _ _) ?rra2
            case yra2 =>
              intro wq hSw
              (try dsimp only at hSw)
              first | (go_simp; done) | (go_simp; with_reducible rfl)
            try simp only [Act.put, List.setIfInBounds_toArray, List.set_cons_zero, List.set_cons_succ]
            refine wpAnyH_take (i := 3) (oi := ⟨some 33, _, _, _, _, _⟩) (v := ?vra3) rfl (by kernel_rfl) (by kernel_rfl) (by kernel_rfl) (fun _ _ _ h => h) (Or.inl ⟨by rfl, ?yra3⟩) (Fr.refl _ _) ?rra3
            case yra3 =>
              intro wq hSw
              (try dsimp only at hSw)
              first | (go_simp; done) | (go_simp; with_reducible rfl)
            try simp only [Act.put, List.setIfInBounds_toArray, List.set_cons_zero, List.set_cons_succ]
            refine wpAnyH_take (i := 4) (oi := ⟨some 34, _, _, _, _, _⟩) (v := ?vra4) rfl (by kernel_rfl) (by kernel_rfl) (by kernel_rfl) (fun _ _ _ h => h) (Or.inl ⟨by rfl, ?yra4⟩) (Fr.refl _ _) ?rra4
            case yra4 =>
              intro wq hSw
              (try dsimp only at hSw)
              first | (go_simp; done) | (go_simp; with_reducible rfl)
            try simp only [Act.put, List.setIfInBounds_toArray, List.set_cons_zero, List.set_cons_succ]
            refine wpAnyH_ready (rs := [1]) (by kernel_rfl) (by simp) ?_
            refine AllReadyH.cons (o := ⟨some 31, _, _, _, _, _⟩) rfl (fun K hK => ?_) AllReadyH.nil
            go_simp
            refine (told_any _ _ _ p w1.drew S1'.out.drew h7).mono ?_; rintro e wt ⟨rfl, hwt⟩
            obtain rfl : w1.drew = _ := hwt
            have hfr : Fr (fun k => w.heap.size ≤ k) w1.drew w1.drew := Fr.refl _ _
            go_wp2_with fail
            refine hK.out _ _ hfr (fun hHeld => ?_)
            clear hK K hHeld
            try simp only [Act.put, List.setIfInBounds_toArray, List.set_cons_zero, List.set_cons_succ]
            refine wpAnyH_re (S' := fun w' => Fr (fun k => w.heap.size ≤ k) w1.drew w') (fun w' h => hfr.trans h) ?_
            clear hfr
            refine wpAnyH_ready (rs := [5]) (by kernel_rfl) (by simp) ?_
            refine AllReadyH.cons (o := ⟨some 35, _, _, _, _, _⟩) rfl (fun K hK => ?_) AllReadyH.nil
            refine wp_append_gro (B := w.heap.size) (.tmp 32) (.tmp 34) rfl rfl (GR1.out.later (Below.drew (Below.refl _ _))) hz1 _ _ _ (p.drop 7) rfl SL.out.drew (by omega) ?_
            intro A6 c6 w2 hg6 hb6
            have hfr : Fr (fun k => w.heap.size ≤ k) w1.drew w2 := Fr.of_belowAt hb6 (fun k hk => hk)
            refine hK.out _ _ hfr (fun hHeld => ?_)
            clear hK K hHeld
            try simp only [Act.put, List.setIfInBounds_toArray, List.set_cons_zero, List.set_cons_succ]
            refine wpAnyH_re (S' := fun w' => Fr (fun k => w.heap.size ≤ k) w2 w') (fun w' h => hfr.trans h) ?_
            clear hfr
            refine wpAnyH_take (i := 6) (oi := ⟨some 6, _, _, _, _, _⟩) (v := ?vra6) rfl (by kernel_rfl) (by kernel_rfl) (by kernel_rfl) (fun _ _ _ h => h) (Or.inl ⟨by rfl, ?yra6⟩) (Fr.refl _ _) ?rra6
            case yra6 =>
              intro wq hSw
              (try dsimp only at hSw)
              first | (go_simp; done) | (go_simp; with_reducible rfl)
            try simp only [Act.put, List.setIfInBounds_toArray, List.set_cons_zero, List.set_cons_succ]
            refine wpAnyH_take (i := 7) (oi := ⟨some 5, _, _, _, _, _⟩) (v := ?vra7) rfl (by kernel_rfl) (by kernel_rfl) (by kernel_rfl) (fun _ _ _ h => h) (Or.inl ⟨by rfl, ?yra7⟩) (Fr.refl _ _) ?rra7
            case yra7 =>
              intro wq hSw
              (try dsimp only at hSw)
              first | (go_simp; done) | (go_simp; with_reducible rfl)
            try simp only [Act.put, List.setIfInBounds_toArray, List.set_cons_zero, List.set_cons_succ]
            refine wpAnyH_done (by kernel_rfl) ?_ _
            have G6 := Lib.hid hg6
            have B6 := Lib.hid (B1.out.trans ((Below.drew (Below.refl _ _)).trans hb6))
            have hc71 := (B6.out.cell (World.block_lt_of_cell? w _ C70.out)).trans C70.out
            have hA := HA7.out
            subst hA
            have HLE := Lib.hid (show (acc ++ p.drop 7).length = acc.length + (p.length - 7) from by rw [List.length_append, List.length_drop])
            have hfin := HJ.out
            rw [TD0.out] at hfin
            have hand := and2_b u
            have hls := LSB.out
            obtain ⟨v, hv⟩ : ∃ v, v = u &&& 2 := ⟨_, rfl⟩
            rw [← hv] at hand hls
            clear hg6 hb6 hv
            by_cases hl : v = 0
            · rw [decide_eq_false (fun hh => hh hl)] at hls
              rw [hls, if_neg (by decide)] at hfin
              rw [hl] at hand
              have FIN := Lib.hid hfin
              clear hfin hls hl
              go_wp2_with fail
              go_roundg (G - 1)
              case measure => omega
              case rel =>
                refine ⟨i + 1, tdF p, acc ++ p.drop 7, A6, c6, by rw [HLE.out], rfl, rfl, by go_num, by omega, by omega, by rw [HLE.out]; exact G6.out, B6.out, ?_, ?_⟩
                · rw [decide_eq_false (by omega)]
                  exact FIN.out
                · have h1 := HAC.out
                  rw [HLE.out]
                  omega
            · rw [decide_eq_true hl] at hls
              rw [hls, if_pos rfl] at hfin
              have hv0 : ¬ (v.toNat : Int) = 0 := by
                intro hh
                exact hl (UInt8.toNat_inj.1 (by show v.toNat = 0; omega))
              have FIN := Lib.hid hfin
              clear hfin hls hl
              go_wp2_with fail
              go_ret3
              rw [← FIN.out]
              have hg := G6.out
              rw [← HLE.out] at hg
              exact ⟨A6, c6, by rw [HLE.out]; rfl, hg.sl, B6.out, hg.low⟩
          · rw [if_neg hc17] at hsl
            have hc18 : ¬ (c1 : Int) = 7 := by omega
            have SL := Lib.hid hsl
            clear hsl
            go_wp2_with fail
            refine wp_region_held_drew (S := fun w' => Fr (fun k => w.heap.size ≤ k) w1.drew w') (by kernel_rfl) (Fr.refl _ _) (fun hHeld => ?_)
            clear hHeld
            refine wpAnyH_take (i := 0) (oi := ⟨some 30, _, _, _, _, _⟩) (v := ?vrb0) rfl (by kernel_rfl) (by kernel_rfl) (by kernel_rfl) (fun _ _ _ h => h) (Or.inl ⟨by rfl, ?yrb0⟩) (Fr.refl _ _) ?rrb0
            case yrb0 =>
              intro wq hSw
              (try dsimp only at hSw)
              first | (go_simp; done) | (go_simp; with_reducible rfl)
            try simp only [Act.put, List.setIfInBounds_toArray, List.set_cons_zero, List.set_cons_succ]
            refine wpAnyH_take (i := 2) (oi := ⟨some 32, _, _, _, _, _⟩) (v := ?vrb2) rfl (by kernel_rfl) (by kernel_rfl) (by kernel_rfl) (fun _ _ _ h => h) (Or.inl ⟨by rfl, ?yrb2⟩) (Fr.refl _ _) ?rrb2
            case yrb2 =>
              intro wq hSw
              (try dsimp only at hSw)
              first | (go_simp; done) | (go_simp; with_reducible rfl)
            try simp only [Act.put, List.setIfInBounds_toArray, List.set_cons_zero, List.set_cons_succ]
            refine wpAnyH_take (i := 3) (oi := ⟨some 33, _, _, _, _, _⟩) (v := ?vrb3) rfl (by kernel_rfl) (by kernel_rfl) (by kernel_rfl) (fun _ _ _ h => h) (Or.inl ⟨by rfl, ?yrb3⟩) (Fr.refl _ _) ?rrb3
            case yrb3 =>
              intro wq hSw
              (try dsimp only at hSw)
              first | (go_simp; done) | (go_simp; with_reducible rfl)
            try simp only [Act.put, List.setIfInBounds_toArray, List.set_cons_zero, List.set_cons_succ]
            refine wpAnyH_take (i := 4) (oi := ⟨some 34, _, _, _, _, _⟩) (v := ?vrb4) rfl (by kernel_rfl) (by kernel_rfl) (by kernel_rfl) (fun _ _ _ h => h) (Or.inl ⟨by rfl, ?yrb4⟩) (Fr.refl _ _) ?rrb4
            case yrb4 =>
              intro wq hSw
              (try dsimp only at hSw)
              first | (go_simp; done) | (go_simp; with_reducible rfl)
            try simp only [Act.put, List.setIfInBounds_toArray, List.set_cons_zero, List.set_cons_succ]
            refine wpAnyH_ready (rs := [1]) (by kernel_rfl) (by simp) ?_
            refine AllReadyH.cons (o := ⟨some 31, _, _, _, _, _⟩) rfl (fun K hK => ?_) AllReadyH.nil
            go_simp
            refine (told_any _ _ _ p w1.drew S1'.out.drew h7).mono ?_; rintro e wt ⟨rfl, hwt⟩
            obtain rfl : w1.drew = _ := hwt
            have hfr : Fr (fun k => w.heap.size ≤ k) w1.drew w1.drew := Fr.refl _ _
            go_wp2_with fail
            refine hK.out _ _ hfr (fun hHeld => ?_)
            clear hK K hHeld
            try simp only [Act.put, List.setIfInBounds_toArray, List.set_cons_zero, List.set_cons_succ]
            refine wpAnyH_re (S' := fun w' => Fr (fun k => w.heap.size ≤ k) w1.drew w') (fun w' h => hfr.trans h) ?_
            clear hfr
            refine wpAnyH_ready (rs := [5]) (by kernel_rfl) (by simp) ?_
            refine AllReadyH.cons (o := ⟨some 35, _, _, _, _, _⟩) rfl (fun K hK => ?_) AllReadyH.nil
            refine wp_append_gro (B := w.heap.size) (.tmp 32) (.tmp 34) rfl rfl (GR1.out.later (Below.drew (Below.refl _ _))) hz1 _ _ _ (p.drop 7) rfl SL.out.drew (by omega) ?_
            intro A6 c6 w2 hg6 hb6
            have hfr : Fr (fun k => w.heap.size ≤ k) w1.drew w2 := Fr.of_belowAt hb6 (fun k hk => hk)
            refine hK.out _ _ hfr (fun hHeld => ?_)
            clear hK K hHeld
            try simp only [Act.put, List.setIfInBounds_toArray, List.set_cons_zero, List.set_cons_succ]
            refine wpAnyH_re (S' := fun w' => Fr (fun k => w.heap.size ≤ k) w2 w') (fun w' h => hfr.trans h) ?_
            clear hfr
            refine wpAnyH_take (i := 6) (oi := ⟨some 6, _, _, _, _, _⟩) (v := ?vrb6) rfl (by kernel_rfl) (by kernel_rfl) (by kernel_rfl) (fun _ _ _ h => h) (Or.inl ⟨by rfl, ?yrb6⟩) (Fr.refl _ _) ?rrb6
            case yrb6 =>
              intro wq hSw
              (try dsimp only at hSw)
              first | (go_simp; done) | (go_simp; with_reducible rfl)
            try simp only [Act.put, List.setIfInBounds_toArray, List.set_cons_zero, List.set_cons_succ]
            refine wpAnyH_take (i := 7) (oi := ⟨some 5, _, _, _, _, _⟩) (v := ?vrb7) rfl (by kernel_rfl) (by kernel_rfl) (by kernel_rfl) (fun _ _ _ h => h) (Or.inl ⟨by rfl, ?yrb7⟩) (Fr.refl _ _) ?rrb7
            case yrb7 =>
              intro wq hSw
              (try dsimp only at hSw)
              first | (go_simp; done) | (go_simp; with_reducible rfl)
            try simp only [Act.put, List.setIfInBounds_toArray, List.set_cons_zero, List.set_cons_succ]
            refine wpAnyH_done (by kernel_rfl) ?_ _
            have G6 := Lib.hid hg6
            have B6 := Lib.hid (B1.out.trans ((Below.drew (Below.refl _ _)).trans hb6))
            have hc71 := (B6.out.cell (World.block_lt_of_cell? w _ C70.out)).trans C70.out
            have hA := HA7.out
            subst hA
            have HLE := Lib.hid (show (acc ++ p.drop 7).length = acc.length + (p.length - 7) from by rw [List.length_append, List.length_drop])
            have hfin := HJ.out
            rw [TD0.out] at hfin
            have hand := and2_b u
            have hls := LSB.out
            obtain ⟨v, hv⟩ : ∃ v, v = u &&& 2 := ⟨_, rfl⟩
            rw [← hv] at hand hls
            clear hg6 hb6 hv
            by_cases hl : v = 0
            · rw [decide_eq_false (fun hh => hh hl)] at hls
              rw [hls, if_neg (by decide)] at hfin
              rw [hl] at hand
              have FIN := Lib.hid hfin
              clear hfin hls hl
              go_wp2_with fail
              go_roundg (G - 1)
              case measure => omega
              case rel =>
                refine ⟨i + 1, tdF p, acc ++ p.drop 7, A6, c6, by rw [HLE.out], rfl, rfl, by go_num, by omega, by omega, by rw [HLE.out]; exact G6.out, B6.out, ?_, ?_⟩
                · rw [decide_eq_false (by omega)]
                  exact FIN.out
                · have h1 := HAC.out
                  rw [HLE.out]
                  omega
            · rw [decide_eq_true hl] at hls
              rw [hls, if_pos rfl] at hfin
              have hv0 : ¬ (v.toNat : Int) = 0 := by
                intro hh
                exact hl (UInt8.toNat_inj.1 (by show v.toNat = 0; omega))
              have FIN := Lib.hid hfin
              clear hfin hls hl
              go_wp2_with fail
              go_ret3
              rw [← FIN.out]
              have hg := G6.out
              rw [← HLE.out] at hg
              exact ⟨A6, c6, by rw [HLE.out]; rfl, hg.sl, B6.out, hg.low⟩
        · have HJ1 := HJ.out
          rw [if_pos hts] at HJ1
          have qt : ((td.toNat : Int) != (sm.toNat : Int)) = true := by
            rw [bne_iff_ne]
            intro hh
            exact hts (BitVec.eq_of_toNat_eq (by omega))
          have HJ := Lib.hid HJ1
          clear HJ1 hts
          go_wp2_with fail
          rw [Exit.noGoto_ret]
          go_ret3
          rw [← HJ.out]
          exact ⟨none, 0, rfl, Sl.nil _ _ _ (by decide), B1.out, fun b o h0 => absurd h0 (by decide)⟩
      · have hfm : fmB p a0 = false := by simpa using hfm
        rw [hfm, if_pos rfl] at hj
        rw [hfm] at hfo
        have HJ := Lib.hid hj
        clear hj hfm
        go_wp2_with fail
        refine hfo.mono ?_; clear hfo; rintro e w1 ⟨rfl, hw1⟩
        obtain rfl := hw1
        go_wp2_with fail
        rw [Exit.noGoto_ret]
        go_ret3
        rw [← HJ.out]
        exact ⟨none, 0, rfl, Sl.nil _ _ _ (by decide), BE.out, fun b o h0 => absurd h0 (by decide)⟩
    · obtain rfl : n = i := by omega
      rw [List.drop_of_length_le (by rw [HH.out.len]; exact Nat.le_refl _), joinL] at hj
      have HJ := Lib.hid hj
      clear hj
      go_wp2_with fail
      rw [Exit.noGoto_ret]
      go_ret3
      rw [← HJ.out]
      exact ⟨none, 0, rfl, Sl.nil _ _ _ (by decide), BE.out, fun b o h0 => absurd h0 (by decide)⟩
end Go.Proofs.YtpijfghklgmefaaDoor

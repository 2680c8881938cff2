/-
  Contracts of bytes.Clone and of package code's All. Condition: the coder is one that New made ('Cod').
-/
import Derived.Test.YtgoomiimlfdcmaaGreatCae
namespace Go.Proofs.YtgoomiimlfdcmaaGreat
open Go.RowKit Go.Proofs
set_option linter.unusedVariables false

theorem Sl.ofNone {w : World} {n c : Nat} {l : List UInt8} (h : Sl w 1 none n c (cells l)) : n = 0 ∧ l = [] := by
  have hl : l = [] := by
    rcases l with _ | ⟨u, r⟩
    · rfl
    · obtain ⟨_, _, e, _⟩ := h.cell 0 (bv u) rfl
      cases e
  subst hl
  have := h.len
  simp [cells] at this
  exact ⟨by omega, rfl⟩

set_option maxRecDepth 20000 in
set_option maxHeartbeats 800000 in
theorem clone_any (A : Option Addr) (n c : Nat) (l : List UInt8) (w : World) (h : Sl w 1 A n c (cells l)) (hn : n ≤ 1048576) :
    Calls Tryz.prog 46 #[.slice A n c] w (RetMine w.heap.size w l) := by
  rcases A with _ | ad
  · obtain ⟨rfl, rfl⟩ := h.ofNone
    clear h
    have hq : (binOp .eql 39 (.slice none 0 c) (.slice none 0 0)).run Tryz.prog w = .ok (.bool true) w := Lib.run_eql_slice_nil w _ _ none 0 c 0 0 Tryz.underlying39
    go_enter Tryz.func46, Tryz.ntmps46
    go_wp2_with fail
    go_ret
    exact ⟨none, 0, 0, rfl, Sl.nil _ 1 0 (by decide), Below.refl _ _, fun h => absurd h (by omega)⟩
  · have hl := h.len
    rw [cells_length, Nat.mul_one] at hl
    have H := Lib.hid h; clear h
    have Hl := Lib.hid hl; clear hl
    have hq : (binOp .eql 39 (.slice (some ad) n c) (.slice none 0 0)).run Tryz.prog w = .ok (.bool false) w := Lib.run_eql_slice_nil w _ _ (some ad) n c 0 0 Tryz.underlying39
    go_enter Tryz.func46, Tryz.ntmps46
    go_wp2_with (at_builtin; refine wpList_append_bm (B := w.heap.size) rfl (.tmp 5) (.tmp 6) rfl rfl (Own.full (Sl.empty _ 1 _ 0 (by decide))) ?pa (some ad) n c l rfl (H.out.alloc _) ?pb ?pc)
    case pa => simp
    case pb => omega
    intro A2 c2 w2 ho2 hb2 hr2
    have hb : Below w.heap.size w w2 := ((Below.refl _ _).alloc (Nat.le_refl _) _).trans hb2
    have Ho2 := Lib.hid ho2; clear ho2
    have Hr2 := Lib.hid hr2; clear hr2 hb2
    go_wp2_with fail
    go_ret
    exact ⟨A2, n, c2, rfl, Ho2.out.sl, hb, fun hn' => Mine.of_own (Hr2.out hn') hn'⟩

theorem Gr.far {w w' : World} {A A2 : Option Addr} {m c2 : Nat} {ys : List (List UInt8)} (h : Gr w A2 m c2 ys) (hb : Below w.heap.size w w') (hA : ∀ b o, A = some ⟨b, o, none⟩ → w.heap.size ≤ b) :
    ∀ b o i r A' c', A2 = some ⟨b, o, none⟩ → ys[i]? = some r → w'.cell? ⟨b, o + i, none⟩ = some (.slice A' r.length c') → Oth A A' r.length := by
  intro b o i r A' c' e hi hc b1 o1 o2 hn e1 e2
  have him : i < m := by
    rcases Nat.lt_or_ge i m with h' | h'
    · exact h'
    · rw [List.getElem?_eq_none (by rw [h.len]; exact h')] at hi
      cases hi
  obtain ⟨b', o', e', hcc⟩ := h.at_ (by omega)
  rw [e] at e'
  injection e' with e'
  injection e' with ea eb
  subst ea; subst eb
  obtain ⟨A'', c'', h1, h2⟩ := hcc i r hi
  have h3 := (hb.cell (World.block_lt_of_cell? w _ h1)).trans h1
  rw [hc] at h3
  injection h3 with h3
  injection h3 with h3 _ _
  subst h3
  have := h2.lt (by decide) hn e1
  have := hA _ _ e2
  omega

/-- append of one row that the call made. -/
theorem wpList_append_g1 {w : World} {B n c : Nat} {A : Option Addr} {rs : List (List UInt8)} {ops : Array Oper} {rest : List Oper} {o : Oper} {a : Act} {Q : Exit → Act → World → Prop} (hgd : o.guard = none) (s x : Operand)
    (ho : o.op = .call { callee := .builtin .append, args := #[s, x], argTypes := #[22, 22] })
    (hv : a.eval s = .slice A n c) (h : Gg w B A n c rs) (hB : B ≤ w.heap.size) (A1 : Option Addr) (n1 c1 : Nat) (r : List UInt8) (hn1 : n1 = r.length) (hr : Sl w 1 A1 n1 c1 (cells r)) (hoth : Oth A A1 n1)
    (hx : a.eval x = .slice (some ⟨w.heap.size, 0, none⟩) 1 1) (h40 : n + 1 ≤ 1048576)
    (hk : ∀ A' c' w', Gg w' B A' (n + 1) c' (rs ++ [r]) → Below B w w' → Fr (Blk A) w w' → wpList Tryz.prog ops Q rest (a.put o.dst (.slice A' (n + 1) c')) w') :
    wpList Tryz.prog ops Q (o :: rest) a (w.alloc (.cells #[.slice A1 n1 c1] 39)) := by
  subst hn1
  have hb0 : Below w.heap.size w (w.alloc (.cells #[.slice A1 r.length c1] 39)) := (Below.refl _ _).alloc (Nat.le_refl _) _
  have hg := heap_alloc_new w (.cells #[.slice A1 r.length c1] 39)
  refine wpList_append_g (B := B) hgd s x ho hv (h.later hb0) (Nat.le_trans hB hb0.size) (some ⟨w.heap.size, 0, none⟩) 1 1 [r] hx (Gr.one hg (hr.below hb0 (Nat.le_refl _))) h40 ?_ ?_
  · intro b o' i r' A' c' e hi hc
    rcases i with _ | i
    · simp at hi
      subst hi
      injection e with e
      injection e with e1 e2
      subst e1; subst e2
      rw [cell_of_row _ _ _ _ _ _ hg] at hc
      simp at hc
      obtain ⟨rfl, _⟩ := hc
      exact hoth
    · simp at hi
  · intro A' c' w' hg' hb' _ hf'
    exact hk A' c' w' hg' ((hb0.mono hB).trans hb') ((Fr.of_below hb0).trans hf')

set_option maxRecDepth 20000 in
set_option maxHeartbeats 1600000 in
theorem all_any (C k m F T : Nat) (A : Option Addr) (n c : Nat) (rs : List (List UInt8)) (w : World) (h : Cod w C k m F T) (hg : Gr w A n c rs) (hW : ∀ r ∈ rs, r.length ≤ 1048576) :
    Calls Tryz.prog 23 #[.pointer (some ⟨C, 0, none⟩), .slice A n c] w fun e w' => Below w.heap.size w w' ∧
      (evenB rs (k : Int) = false ∧ e = .returned (.tuple #[.slice none 0 0, .int .i64 2]) ∨ evenB rs (k : Int) = true ∧ ∃ A c, e = .returned (.tuple #[.slice A (k + m) c, .int .i64 0]) ∧ Gr w' A (k + m) c (rs ++ parL k rs m)) := by
  have he := encode_any C k m F T A n c rs w h hg hW
  have h3 := h.n255
  have hlim := hg.lim
  unfold maxLen at hlim
  have H := Lib.hid h; clear h
  have Hg := Lib.hid hg; clear hg
  have HW := Lib.hid hW; clear hW
  go_enter Tryz.func23, Tryz.ntmps23
  go_wp2_with fail
  refine he.mono ?_; clear he; rintro e w1 ⟨hb1, h1⟩
  rcases h1 with ⟨hev, rfl⟩ | ⟨hev, g, rfl, hpar⟩
  · have Hev := Lib.hid hev; clear hev
    go_wp2_with fail
    go_ret2
    exact ⟨hb1, .inl ⟨Hev.out, rfl⟩⟩
  · have hnk : n = k := by
      rw [evenB, Bool.and_eq_true] at hev
      have := of_decide_eq_true hev.1
      have := Hg.out.len
      omega
    subst hnk
    have H1 := Lib.hid (H.out.later hb1)
    have Hev := Lib.hid hev; clear hev
    have Hpar := Lib.hid hpar; clear hpar
    have Hb1 := Lib.hid hb1
    have hsz1 := hb1.size
    have c0 := H1.out.c0
    have c1 := H1.out.c1
    clear hb1
    go_wp2_with fail
    refine (gn_any n m h3 _).mono ?_; rintro e w2 ⟨rfl, hb2⟩
    have hmk := makes0_eq ((n : Int) + (m : Int)) (n + m) (by simp) (by omega)
    have hb12 := Hb1.out.trans (hb2.mono hsz1)
    have Hb12 := Lib.hid hb12
    have hsz2 := hb12.size
    have Hpar2 := Lib.hid (Hpar.out.later hb2)
    clear c0 c1 hb2 hb12 Hpar
    go_wp2_with fail
    go_loopw [8, 28] (fun v i wr => ∃ (j : Nat) (A' : Option Addr) (c' : Nat), j ≤ n ∧ i = .int .i64 (j : Int) ∧ v = .slice A' j c' ∧ Gg wr w2.heap.size A' j c' (rs.take j) ∧ Below w2.heap.size w2 wr) (fun _ i _ => n - (intOf i).toNat)
    case atStart => exact ⟨0, _, _, by omega, rfl, rfl, by simpa using Gg.made0 w2 (n + m) (by unfold maxLen; omega), (Below.refl _ _).alloc (Nat.le_refl _) _⟩
    case round =>
      obtain ⟨j, A', c', hj, rfl, rfl, hG, hb⟩ := hrel
      have HG := Lib.hid hG; clear hG
      have Hb := Lib.hid hb
      have hszr := hb.size
      clear hb
      by_cases hlt : j < n
      · obtain ⟨b, o, rfl, hc⟩ := (Hg.out.later (Hb12.out.trans (Hb.out.mono hsz2))).at_ (by omega)
        obtain ⟨Ar, cr, hcr, hsr⟩ := hc j _ (Hg.out.get hlt)
        have hWj : (rs.getD j []).length ≤ 1048576 := HW.out _ (List.mem_of_getElem? (Hg.out.get hlt))
        obtain ⟨r, hr⟩ : ∃ r, r = rs.getD j [] := ⟨_, rfl⟩
        rw [← hr] at hcr hsr hWj
        have Hr := Lib.hid hr; clear hr hc
        have hcl := clone_any Ar r.length cr r wr hsr hWj
        clear hsr
        go_wp2_with fail
        refine hcl.mono ?_; clear hcl; rintro e w3 ⟨Ac, nc, cc, rfl, hsc, hb3, hmc⟩
        have hnc : nc = r.length := by
          have := hsc.len
          rw [cells_length] at this
          omega
        have hoth : Oth A' Ac nc := fun b1 o1 o2 hn e1 e2 => by
          obtain ⟨g', cur, e', hg', _⟩ := hmc hn
          rw [e1] at e'; injection e' with e'; injection e' with e' _
          have := (HG.out.own _ _ e2).2
          omega
        have Hsc := Lib.hid hsc
        have Hoth := Lib.hid hoth
        have Hnc := Lib.hid hnc
        have hsz3 := hb3.size
        have HG3 := Lib.hid (HG.out.later hb3)
        have Hb3 := Lib.hid (Hb.out.trans (hb3.mono hszr))
        clear hsc hmc hoth hnc hb3 hcr
        go_wp2_with (at_builtin; refine wpList_append_g1 (B := w2.heap.size) rfl (.tmp 32) (.tmp 35) rfl rfl HG3.out ?pa Ac nc cc r Hnc.out Hsc.out Hoth.out rfl ?pb ?pc)
        case pa => omega
        case pb => omega
        intro A4 c4 w4 hG4 hb4 hf4
        have hnext : rs.take j ++ [r] = rs.take (j + 1) := by
          have hjl : j < rs.length := by rw [Hg.out.len]; exact hlt
          rw [← List.take_append_getElem hjl, Hr.out]
          simp [hjl]
        rw [hnext] at hG4
        have HG4 := Lib.hid hG4; clear hG4 hnext
        have Hb4 := Lib.hid (Hb3.out.trans hb4); clear hb4 hf4
        go_wp2_with fail
        go_roundw
        case rel => exact ⟨j + 1, A4, c4, by omega, by go_num, rfl, HG4.out, Hb4.out⟩
        case measure => simp [intOf]; omega
      · obtain rfl : j = n := by omega
        have hpar3 := Hpar2.out.later Hb.out
        have hfar := Hpar2.out.far Hb.out (fun b o e => (HG.out.own b o e).1)
        have Hfar := Lib.hid hfar
        have Hpar3 := Lib.hid hpar3
        clear hpar3 hfar
        go_wp2_with (at_builtin; refine wpList_append_g (B := w2.heap.size) rfl (.tmp 38) (.tmp 39) rfl rfl HG.out ?qa (some ⟨g, 0, none⟩) m m (parL j rs m) rfl Hpar3.out ?qb Hfar.out ?qc)
        case qa => omega
        case qb => omega
        intro A4 c4 w4 hG4 hb4 _ _
        rw [List.take_of_length_le (by rw [Hg.out.len]; exact Nat.le_refl _)] at hG4
        have HG4 := Lib.hid hG4; clear hG4
        have Hb4 := Lib.hid (Hb12.out.trans ((Hb.out.trans hb4).mono hsz2)); clear hb4
        go_wp2_with fail
        go_ret2
        exact ⟨Hb4.out, .inr ⟨Hev.out, A4, c4, rfl, HG4.out.gr⟩⟩
end Go.Proofs.YtgoomiimlfdcmaaGreat

/-
  Contracts of bytes.Clone and of package code's All. Condition: the coder is one that New made ('Cod').
-/
import Derived.Test.YtjacdabhlnfbkaaCae
namespace Go.Proofs.Ytjacdabhlnfbkaa
open Go.RowKit Go.Proofs
set_option linter.unusedVariables false

theorem Sl.ofNone {w : World} {n c : Nat} {l : List UInt8} (h : Sl w 1 none n c (cells l)) : n = 0 ∧ l = [] := by
  have hl : l = [] := by
    rcases l with _ | ⟨u, r⟩
    · rfl
    · obtain ⟨_, _, e, _⟩ := h.cell 0 (bv u) rfl
      cases e
  subst hl
  have := h.len
  simp [cells] at this
  exact ⟨by omega, rfl⟩

set_option maxRecDepth 20000 in
set_option maxHeartbeats 800000 in
theorem clone_any (A : Option Addr) (n c : Nat) (l : List UInt8) (w : World) (h : Sl w 1 A n c (cells l)) (hn : n ≤ 1048576) :
    Calls Try.prog 48 #[.slice A n c] w (RetMine w.heap.size w l) := by
  rcases A with _ | ad
  · obtain ⟨rfl, rfl⟩ := h.ofNone
    clear h
    have hq : (binOp .eql 22 (.slice none 0 c) (.slice none 0 0)).run Try.prog w = .ok (.bool true) w := Lib.run_eql_slice_nil w _ _ none 0 c 0 0 Try.underlying22
    go_enter Try.func48, Try.ntmps48
    go_wp2_with fail
    go_ret
    exact ⟨none, 0, 0, rfl, Sl.nil _ 1 0 (by decide), Below.refl _ _, fun h => absurd h (by omega)⟩
  · have hl := h.len
    rw [cells_length, Nat.mul_one] at hl
    have H := Lib.hid h; clear h
    have Hl := Lib.hid hl; clear hl
    have hq : (binOp .eql 22 (.slice (some ad) n c) (.slice none 0 0)).run Try.prog w = .ok (.bool false) w := Lib.run_eql_slice_nil w _ _ (some ad) n c 0 0 Try.underlying22
    go_enter Try.func48, Try.ntmps48
    go_wp2_with (at_builtin; refine wpList_append_bm (B := w.heap.size) rfl (.tmp 5) (.tmp 6) rfl rfl (Own.full (Sl.empty _ 1 _ 0 (by decide))) ?pa (some ad) n c l rfl (H.out.alloc _) ?pb ?pc)
    case pa => simp
    case pb => omega
    intro A2 c2 w2 ho2 hb2 hr2
    have hb : Below w.heap.size w w2 := ((Below.refl _ _).alloc (Nat.le_refl _) _).trans hb2
    have Ho2 := Lib.hid ho2; clear ho2
    have Hr2 := Lib.hid hr2; clear hr2 hb2
    go_wp2_with fail
    go_ret
    exact ⟨A2, n, c2, rfl, Ho2.out.sl, hb, fun hn' => Mine.of_own (Hr2.out hn') hn'⟩

theorem Gr.far {w w' : World} {A A2 : Option Addr} {m c2 : Nat} {ys : List (List UInt8)} (h : Gr w A2 m c2 ys) (hb : Below w.heap.size w w') (hA : ∀ b o, A = some ⟨b, o, none⟩ → w.heap.size ≤ b) :
    ∀ b o i r A' c', A2 = some ⟨b, o, none⟩ → ys[i]? = some r → w'.cell? ⟨b, o + i, none⟩ = some (.slice A' r.length c') → Oth A A' r.length := by
  intro b o i r A' c' e hi hc b1 o1 o2 hn e1 e2
  have him : i < m := by
    rcases Nat.lt_or_ge i m with h' | h'
    · exact h'
    · rw [List.getElem?_eq_none (by rw [h.len]; exact h')] at hi
      cases hi
  obtain ⟨b', o', e', hcc⟩ := h.at_ (by omega)
  rw [e] at e'
  injection e' with e'
  injection e' with ea eb
  subst ea; subst eb
  obtain ⟨A'', c'', h1, h2⟩ := hcc i r hi
  have h3 := (hb.cell (World.block_lt_of_cell? w _ h1)).trans h1
  rw [hc] at h3
  injection h3 with h3
  injection h3 with h3 _ _
  subst h3
  have := h2.lt (by decide) hn e1
  have := hA _ _ e2
  omega

/-- append of one row that the call made. -/
theorem wpList_append_g1 {w : World} {B n c : Nat} {A : Option Addr} {rs : List (List UInt8)} {ops : Array Oper} {rest : List Oper} {o : Oper} {a : Act} {Q : Exit → Act → World → Prop} (hgd : o.guard = none) (s x : Operand)
    (ho : o.op = .call { callee := .builtin .append, args := #[s, x], argTypes := #[23, 23] })
    (hv : a.eval s = .slice A n c) (h : Gg w B A n c rs) (hB : B ≤ w.heap.size) (A1 : Option Addr) (n1 c1 : Nat) (r : List UInt8) (hn1 : n1 = r.length) (hr : Sl w 1 A1 n1 c1 (cells r)) (hoth : Oth A A1 n1)
    (hx : a.eval x = .slice (some ⟨w.heap.size, 0, none⟩) 1 1) (h40 : n + 1 ≤ 1048576)
    (hk : ∀ A' c' w', Gg w' B A' (n + 1) c' (rs ++ [r]) → Below B w w' → Fr (Blk A) w w' → wpList Try.prog ops Q rest (a.put o.dst (.slice A' (n + 1) c')) w') :
    wpList Try.prog ops Q (o :: rest) a (w.alloc (.cells #[.slice A1 n1 c1] 22)) := by
  subst hn1
  have hb0 : Below w.heap.size w (w.alloc (.cells #[.slice A1 r.length c1] 22)) := (Below.refl _ _).alloc (Nat.le_refl _) _
  have hg := heap_alloc_new w (.cells #[.slice A1 r.length c1] 22)
  refine wpList_append_g (B := B) hgd s x ho hv (h.later hb0) (Nat.le_trans hB hb0.size) (some ⟨w.heap.size, 0, none⟩) 1 1 [r] hx (Gr.one hg (hr.below hb0 (Nat.le_refl _))) h40 ?_ ?_
  · intro b o' i r' A' c' e hi hc
    rcases i with _ | i
    · simp at hi
      subst hi
      injection e with e
      injection e with e1 e2
      subst e1; subst e2
      rw [cell_of_row _ _ _ _ _ _ hg] at hc
      simp at hc
      obtain ⟨rfl, _⟩ := hc
      exact hoth
    · simp at hi
  · intro A' c' w' hg' hb' _ hf'
    exact hk A' c' w' hg' ((hb0.mono hB).trans hb') ((Fr.of_below hb0).trans hf')

theorem GrV.one {w : World} {g : Nat} {r : List UInt8} {A' : Option Addr} {c' : Nat} (hg : w.heap[g]? = some (.cells #[.slice A' r.length c'] 22 (0, 0))) (hs : Sl w 1 A' r.length c' (cells r)) : GrV w (some ⟨g, 0, none⟩) 1 1 [r] [.slice A' r.length c'] := by
  refine ⟨⟨rfl, Nat.le_refl _, by decide, fun j u hu => ⟨g, 0, rfl, ?_⟩⟩, fun i x hx => ?_, rfl⟩
  · rw [cell_of_row _ _ _ _ _ _ hg, Nat.zero_add]
    simpa using hu
  · rcases i with _ | i
    · simp at hx
      subst hx
      exact ⟨A', c', rfl, hs⟩
    · simp at hx
theorem wpList_append_g1V {w : World} {B n c : Nat} {A : Option Addr} {rs : List (List UInt8)} {vs : List Value} {ops : Array Oper} {rest : List Oper} {o : Oper} {a : Act} {Q : Exit → Act → World → Prop} (hgd : o.guard = none) (s x : Operand)
    (ho : o.op = .call { callee := .builtin .append, args := #[s, x], argTypes := #[23, 23] })
    (hv : a.eval s = .slice A n c) (h : GgV w B A n c rs vs) (hB : B ≤ w.heap.size) (A1 : Option Addr) (n1 c1 : Nat) (r : List UInt8) (hn1 : n1 = r.length) (hr : Sl w 1 A1 n1 c1 (cells r)) (hoth : Oth A A1 n1)
    (hx : a.eval x = .slice (some ⟨w.heap.size, 0, none⟩) 1 1) (h40 : n + 1 ≤ 1048576)
    (hk : ∀ A' c' w', GgV w' B A' (n + 1) c' (rs ++ [r]) (vs ++ [.slice A1 n1 c1]) → Below B w w' → w.heap.size ≤ w'.heap.size → Fr (Blk A) w w' → wpList Try.prog ops Q rest (a.put o.dst (.slice A' (n + 1) c')) w') :
    wpList Try.prog ops Q (o :: rest) a (w.alloc (.cells #[.slice A1 n1 c1] 22)) := by
  subst hn1
  have hb0 : Below w.heap.size w (w.alloc (.cells #[.slice A1 r.length c1] 22)) := (Below.refl _ _).alloc (Nat.le_refl _) _
  have hg := heap_alloc_new w (.cells #[.slice A1 r.length c1] 22)
  refine wpList_append_gV (B := B) hgd s x ho hv (h.later hb0) (Nat.le_trans hB hb0.size) (some ⟨w.heap.size, 0, none⟩) 1 1 [r] _ hx (GrV.one hg (hr.below hb0 (Nat.le_refl _))) h40 ?_ ?_
  · intro i r' A' c' hi hc
    rcases i with _ | i
    · simp at hi
      subst hi
      simp at hc
      obtain ⟨rfl, _⟩ := hc
      exact hoth
    · simp at hi
  · intro A' c' w' hg' hb' hs' hf'
    exact hk A' c' w' hg' ((hb0.mono hB).trans hb') (Nat.le_trans hb0.size hs') ((Fr.of_below hb0).trans hf')
/-- Rows of the call's own, in a slice that grows. -/
structure GgS (w : World) (B : Nat) (A : Option Addr) (n c : Nat) (rs : List (List UInt8)) : Prop where
  ex : ∃ vs : List Value, GgV w B A n c rs vs ∧ Sep w B w.heap.size (fun i => vs[i]?) rs
section
variable {w w' : World} {B n c : Nat} {A : Option Addr} {rs : List (List UInt8)}
theorem GgS.gg (h : GgS w B A n c rs) : Gg w B A n c rs := by
  obtain ⟨vs, h1, _⟩ := h.ex
  exact h1.gg
theorem GgS.later (h : GgS w B A n c rs) (hb : Below w.heap.size w w') : GgS w' B A n c rs := by
  obtain ⟨vs, h1, h2⟩ := h.ex
  exact ⟨⟨vs, h1.later hb, (h2.later hb).up hb.size⟩⟩
theorem GgS.gm (h : GgS w B A n c rs) : Gm w B A n c rs := by
  obtain ⟨vs, h1, h2⟩ := h.ex
  refine ⟨⟨vs, h1.grV, h2, fun i r A' c' hi hv => ?_⟩⟩
  obtain ⟨A2, c2, e1, _, e3⟩ := h1.rows i r hi
  rw [hv] at e1
  injection e1 with e1
  injection e1 with e1
  subst e1
  exact e3
theorem GgS.made0 (w : World) (k : Nat) (hk : k ≤ maxLen) : GgS (w.alloc (.cells (madeCells #[.slice none 0 0] k) 22)) w.heap.size (some ⟨w.heap.size, 0, none⟩) 0 k [] := ⟨⟨[], GgV.made0 w k hk, Sep.nil _ _ _ _⟩⟩
/-- One more of its own: made behind all that lay there. -/
theorem GgS.next {v vs : List Value} {A1 A' : Option Addr} {c1 c' : Nat} {r : List UInt8} {w0 w1 w2 : World} (h1 : GgV w0 B A n c rs vs) (h2 : Sep w0 B w0.heap.size (fun i => vs[i]?) rs) (hb : Below w0.heap.size w0 w1) (hm : Mine w1 w0.heap.size 5 A1 r.length (cells r))
    (hoth : Oth A A1 r.length) (hB : B ≤ w0.heap.size) (hf : Fr (Blk A) w1 w2) (h3 : GgV w2 B A' (n + 1) c' (rs ++ [r]) (vs ++ [.slice A1 r.length c1])) : GgS w2 B A' (n + 1) c' (rs ++ [r]) := by
  have hvl := h1.own.sl.len
  rw [Nat.mul_one] at hvl
  have hrl := h1.len
  have s1 : Sep w1 B w1.heap.size (fun i => (vs ++ [Value.slice A1 r.length c1])[i]?) (rs ++ [r]) := by
    refine (h2.later hb).app (Sep.one (c := c1) hm) (.inl (Nat.le_refl _)) (Nat.le_refl _) hB hb.size (Nat.le_refl _) (fun i hi => ?_) fun i hi => ?_
    · show (vs ++ [Value.slice A1 r.length c1])[i]? = vs[i]?
      rw [List.getElem?_append_left (by omega)]
    · have hi : i < 1 := hi
      obtain rfl : i = 0 := by omega
      show (vs ++ [Value.slice A1 r.length c1])[rs.length + 0]? = _
      rw [List.getElem?_append_right (by omega), show rs.length + 0 - vs.length = 0 from by omega]
      rfl
  refine ⟨⟨_, h3, (s1.frS hf fun i x g n' c'' hi hx e hk => ?_).up hf.size⟩⟩
  obtain ⟨o, hk⟩ := hk
  rcases Nat.lt_or_ge i rs.length with hl | hl
  · rw [List.getElem?_append_left hl] at hi
    obtain ⟨A2, c2, e1, _, e3⟩ := h1.rows i x hi
    have e : (vs ++ [Value.slice A1 r.length c1])[i]? = _ := e
    rw [List.getElem?_append_left (by omega), e1] at e
    injection e with e
    injection e with e
    exact e3 g 0 o hx e hk
  · rw [List.getElem?_append_right hl] at hi
    have hi0 : i - rs.length = 0 := by
      rcases Nat.lt_or_ge (i - rs.length) 1 with h' | h'
      · omega
      · rw [List.getElem?_eq_none (by simpa using h')] at hi
        cases hi
    rw [hi0] at hi
    simp at hi
    subst hi
    have e : (vs ++ [Value.slice A1 r.length c1])[i]? = _ := e
    rw [List.getElem?_append_right (by omega), show i - vs.length = 0 from by omega] at e
    injection e with e
    injection e with e
    exact hoth g 0 o hx e hk
end

set_option maxRecDepth 20000 in
set_option maxHeartbeats 1600000 in
theorem all_own (C k m F T : Nat) (A : Option Addr) (n c : Nat) (rs : List (List UInt8)) (w : World) (h : Cod w C k m F T) (hg : Gr w A n c rs) (hW : ∀ r ∈ rs, r.length ≤ 1048576) :
    Calls Try.prog 23 #[.pointer (some ⟨C, 0, none⟩), .slice A n c] w fun e w' => Below w.heap.size w w' ∧
      (evenB rs (k : Int) = false ∧ e = .returned (.tuple #[.slice none 0 0, .int .i64 2]) ∨ evenB rs (k : Int) = true ∧ ∃ A c, e = .returned (.tuple #[.slice A (k + m) c, .int .i64 0]) ∧ Gm w' w.heap.size A (k + m) c (rs ++ parL k rs m)) := by
  have he := encode_own C k m F T A n c rs w h hg hW
  have h3 := h.n255
  have hlim := hg.lim
  unfold maxLen at hlim
  have H := Lib.hid h; clear h
  have Hg := Lib.hid hg; clear hg
  have HW := Lib.hid hW; clear hW
  go_enter Try.func23, Try.ntmps23
  go_wp2_with fail
  refine he.mono ?_; clear he; rintro e w1 ⟨hb1, h1⟩
  rcases h1 with ⟨hev, rfl⟩ | ⟨hev, g, rfl, _, hpar⟩
  · have Hev := Lib.hid hev; clear hev
    go_wp2_with fail
    go_ret2
    exact ⟨hb1, .inl ⟨Hev.out, rfl⟩⟩
  · have hnk : n = k := by
      rw [evenB, Bool.and_eq_true] at hev
      have := of_decide_eq_true hev.1
      have := Hg.out.len
      omega
    subst hnk
    have H1 := Lib.hid (H.out.later hb1)
    have Hev := Lib.hid hev; clear hev
    have Hpar := Lib.hid hpar; clear hpar
    have Hb1 := Lib.hid hb1
    have hsz1 := hb1.size
    have c0 := H1.out.c0
    have c1 := H1.out.c1
    clear hb1
    go_wp2_with fail
    refine (gn_any n m h3 _).mono ?_; rintro e w2 ⟨rfl, hb2⟩
    have hmk := makes0_eq ((n : Int) + (m : Int)) (n + m) (by simp) (by omega)
    have hb12 := Hb1.out.trans (hb2.mono hsz1)
    have Hb12 := Lib.hid hb12
    have hsz2 := hb12.size
    have Hpar2 := Lib.hid (Hpar.out.later hb2)
    clear c0 c1 hb2 hb12 Hpar
    go_wp2_with fail
    go_loopw [8, 28] (fun v i wr => ∃ (j : Nat) (A' : Option Addr) (c' : Nat), j ≤ n ∧ i = .int .i64 (j : Int) ∧ v = .slice A' j c' ∧ GgS wr w2.heap.size A' j c' (rs.take j) ∧ Below w2.heap.size w2 wr) (fun _ i _ => n - (intOf i).toNat)
    case atStart => exact ⟨0, _, _, by omega, rfl, rfl, by simpa using GgS.made0 w2 (n + m) (by unfold maxLen; omega), (Below.refl _ _).alloc (Nat.le_refl _) _⟩
    case round =>
      obtain ⟨j, A', c', hj, rfl, rfl, hG, hb⟩ := hrel
      have HG := Lib.hid hG; clear hG
      have Hb := Lib.hid hb
      have hszr := hb.size
      clear hb
      by_cases hlt : j < n
      · obtain ⟨b, o, rfl, hc⟩ := (Hg.out.later (Hb12.out.trans (Hb.out.mono hsz2))).at_ (by omega)
        obtain ⟨Ar, cr, hcr, hsr⟩ := hc j _ (Hg.out.get hlt)
        have hWj : (rs.getD j []).length ≤ 1048576 := HW.out _ (List.mem_of_getElem? (Hg.out.get hlt))
        obtain ⟨r, hr⟩ : ∃ r, r = rs.getD j [] := ⟨_, rfl⟩
        rw [← hr] at hcr hsr hWj
        have Hr := Lib.hid hr; clear hr hc
        have hcl := clone_any Ar r.length cr r wr hsr hWj
        clear hsr
        go_wp2_with fail
        refine hcl.mono ?_; clear hcl; rintro e w3 ⟨Ac, nc, cc, rfl, hsc, hb3, hmc⟩
        have hnc : nc = r.length := by
          have := hsc.len
          rw [cells_length] at this
          omega
        have hoth : Oth A' Ac nc := fun b1 o1 o2 hn e1 e2 => by
          obtain ⟨g', cur, e', hg', _⟩ := hmc hn
          rw [e1] at e'; injection e' with e'; injection e' with e' _
          have := (HG.out.gg.own _ _ e2).2
          omega
        have Hsc := Lib.hid hsc
        have Hoth := Lib.hid hoth
        have hsz3 := hb3.size
        obtain ⟨vs, hV, hS⟩ := HG.out.ex
        have HV := Lib.hid hV
        have HS := Lib.hid hS
        have HV3 := Lib.hid (hV.later hb3)
        have Hbq := Lib.hid hb3
        subst hnc
        have Hmc := Lib.hid hmc
        clear hV hS
        have Hb3 := Lib.hid (Hb.out.trans (hb3.mono hszr))
        clear hsc hmc hoth hb3 hcr
        go_wp2_with (at_builtin; refine wpList_append_g1V (B := w2.heap.size) rfl (.tmp 32) (.tmp 35) rfl rfl HV3.out ?pa Ac r.length cc r rfl Hsc.out Hoth.out rfl ?pb ?pc)
        case pa => omega
        case pb => omega
        intro A4 c4 w4 hG4 hb4 _ hf4
        replace hG4 := GgS.next (v := []) HV.out HS.out Hbq.out Hmc.out Hoth.out (by omega) hf4 hG4
        have hnext : rs.take j ++ [r] = rs.take (j + 1) := by
          have hjl : j < rs.length := by rw [Hg.out.len]; exact hlt
          rw [← List.take_append_getElem hjl, Hr.out]
          simp [hjl]
        rw [hnext] at hG4
        have HG4 := Lib.hid hG4; clear hG4 hnext
        have Hb4 := Lib.hid (Hb3.out.trans hb4); clear hb4 hf4
        go_wp2_with fail
        go_roundw
        case rel => exact ⟨j + 1, A4, c4, by omega, by go_num, rfl, HG4.out, Hb4.out⟩
        case measure => simp [intOf]; omega
      · obtain rfl : j = n := by omega
        obtain ⟨vs, hV, hS⟩ := HG.out.ex
        have HV := Lib.hid hV
        have HS := Lib.hid hS
        obtain ⟨ps, hP, hQ, _⟩ := Hpar2.out.ex
        have hP3 := hP.later Hb.out
        have hQ3 := hQ.later Hb.out
        have hfar : ∀ (i : Nat) (r : List UInt8) (A2 : Option Addr) (c2 : Nat), (parL j rs m)[i]? = some r → ps[i]? = some (Value.slice A2 r.length c2) → Oth A' A2 r.length := fun i r A2 c2 hi hv b1 o1 o2 hn e1 e2 => by
          rw [e1] at hv
          obtain ⟨g1, c1, q1, q2, q3⟩ := hQ.row i r hi hn
          have q1 : ps[i]? = _ := q1
          rw [hv] at q1
          injection q1 with q1; injection q1 with q1; injection q1 with q1; injection q1 with q1
          have := (hV.blk _ _ e2).1
          omega
        have HP3 := Lib.hid hP3
        have HQ3 := Lib.hid hQ3
        have Hfar := Lib.hid hfar
        clear hP hQ hP3 hQ3 hfar hV hS
        go_wp2_with (at_builtin; refine wpList_append_gV (B := w2.heap.size) rfl (.tmp 38) (.tmp 39) rfl rfl HV.out ?qa (some ⟨g, 0, none⟩) m m (parL j rs m) ps rfl HP3.out ?qb Hfar.out ?qc)
        case qa => omega
        case qb => omega
        intro A4 c4 w4 hV4 hb4 hsz4 hf4
        have hG4 : Gm w4 w.heap.size A4 (j + m) c4 (rs.take j ++ parL j rs m) := by
          have hvl := HV.out.own.sl.len
          rw [Nat.mul_one] at hvl
          have hrl := HV.out.len
          have s1 : Sep wr w.heap.size wr.heap.size (fun i => (vs ++ ps)[i]?) (rs.take j ++ parL j rs m) := by
            refine HS.out.app HQ3.out (.inr (Nat.le_refl _)) (by omega) (Nat.le_refl _) (Nat.le_refl _) hszr (fun i hi => ?_) fun i hi => ?_
            · show (vs ++ ps)[i]? = vs[i]?
              rw [List.getElem?_append_left (by omega)]
            · show (vs ++ ps)[(rs.take j).length + i]? = ps[i]?
              rw [List.getElem?_append_right (by omega), show (rs.take j).length + i - vs.length = i from by omega]
          have hot : ∀ (i : Nat) (r : List UInt8) (A2 : Option Addr) (c2 : Nat), (rs.take j ++ parL j rs m)[i]? = some r → (vs ++ ps)[i]? = some (Value.slice A2 r.length c2) → Oth A' A2 r.length := fun i r A2 c2 hi hv => by
            rcases Nat.lt_or_ge i (rs.take j).length with hl | hl
            · rw [List.getElem?_append_left hl] at hi
              rw [List.getElem?_append_left (by omega)] at hv
              obtain ⟨A3, c3, e1, _, e3⟩ := HV.out.rows i r hi
              rw [hv] at e1
              injection e1 with e1
              injection e1 with e1
              subst e1
              exact e3
            · rw [List.getElem?_append_right hl] at hi
              rw [List.getElem?_append_right (by omega)] at hv
              exact Hfar.out _ r A2 c2 hi (by rw [← hv]; congr 1; omega)
          refine ⟨⟨_, hV4.grV, (s1.frS hf4 fun i x gx n' c'' hi hx e hk => ?_).up hf4.size, fun i r A2 c2 hi hv => ?_⟩⟩
          · obtain ⟨o, hk⟩ := hk
            obtain ⟨g1, c1, q1, _, _⟩ := s1.row i x hi hx
            have q1 : (vs ++ ps)[i]? = _ := q1
            have e : (vs ++ ps)[i]? = _ := e
            rw [q1] at e
            injection e with e; injection e with e; injection e with e; injection e with e
            subst e
            exact hot i x _ _ hi q1 g1 0 o hx rfl hk
          · obtain ⟨A3, c3, e1, _, e3⟩ := hV4.rows i r hi
            rw [hv] at e1
            injection e1 with e1
            injection e1 with e1
            subst e1
            exact e3
        clear hV4
        rw [List.take_of_length_le (by rw [Hg.out.len]; exact Nat.le_refl _)] at hG4
        have HG4 := Lib.hid hG4; clear hG4
        have Hb4 := Lib.hid (Hb12.out.trans ((Hb.out.trans hb4).mono hsz2)); clear hb4
        go_wp2_with fail
        go_ret2
        exact ⟨Hb4.out, .inr ⟨Hev.out, A4, c4, rfl, HG4.out⟩⟩
theorem all_any (C k m F T : Nat) (A : Option Addr) (n c : Nat) (rs : List (List UInt8)) (w : World) (h : Cod w C k m F T) (hg : Gr w A n c rs) (hW : ∀ r ∈ rs, r.length ≤ 1048576) :
    Calls Try.prog 23 #[.pointer (some ⟨C, 0, none⟩), .slice A n c] w fun e w' => Below w.heap.size w w' ∧
      (evenB rs (k : Int) = false ∧ e = .returned (.tuple #[.slice none 0 0, .int .i64 2]) ∨ evenB rs (k : Int) = true ∧ ∃ A c, e = .returned (.tuple #[.slice A (k + m) c, .int .i64 0]) ∧ Gr w' A (k + m) c (rs ++ parL k rs m)) := by
  refine (all_own C k m F T A n c rs w h hg hW).mono ?_
  rintro e w' ⟨hb, hR⟩
  exact ⟨hb, hR.imp id fun ⟨h1, A', c', h2, h3⟩ => ⟨h1, A', c', h2, h3.gr⟩⟩
end Go.Proofs.Ytjacdabhlnfbkaa

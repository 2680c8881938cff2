/-
  The document's map (layer 12): Set. No condition but bounds.
-/
import Derived.Test.YthkflghekgbgcaaDoorEbn
namespace Go.Proofs.YthkflghekgbgcaaDoor
open Go.RowKit Go.Proofs
set_option linter.unusedVariables false

/-- How the document's Set goes through the list. -/
def insS (i : Nat) (s : List Nat × Bool) (x : Nat) : List Nat × Bool :=
  if s.2 = false ∧ i < x then (s.1 ++ [i] ++ [x], true) else if x = i then s else (s.1 ++ [x], s.2)
def insR (l : List Nat) (i : Nat) (on : Bool) : List Nat := if (l.foldl (insS i) ([], !on)).2 then (l.foldl (insS i) ([], !on)).1 else (l.foldl (insS i) ([], !on)).1 ++ [i]
theorem fold_lt {i : Nat} : ∀ (a k : List Nat), (∀ x ∈ a, x < i) → a.foldl (insS i) (k, false) = (k ++ a, false)
  | [], k, _ => by simp
  | x :: a, k, h => by
    have hx := h x (by simp)
    rw [List.foldl_cons, show insS i (k, false) x = (k ++ [x], false) by rw [insS, if_neg (by simp; omega), if_neg (by omega)], fold_lt a _ (fun y hy => h y (List.mem_cons_of_mem _ hy))]
    simp
theorem fold_put {i : Nat} : ∀ (b k : List Nat), (∀ x ∈ b, x ≠ i) → b.foldl (insS i) (k, true) = (k ++ b, true)
  | [], k, _ => by simp
  | x :: b, k, h => by
    have hx := h x (by simp)
    rw [List.foldl_cons, show insS i (k, true) x = (k ++ [x], true) by rw [insS, if_neg (by simp), if_neg hx], fold_put b _ (fun y hy => h y (List.mem_cons_of_mem _ hy))]
    simp
theorem ins_eq {n i : Nat} {f : Nat → Bool} {on : Bool} (hi : i < n) (hf : f i = !on) : insR (plc n 0 f true) i on = plc n 0 (putB f i on) true := by
  have e1 : plc i 0 (putB f i on) true = plc i 0 f true := plc_congr fun j _ hj => by rw [putB, if_neg (by omega)]
  have e2 : plc n (i + 1) (putB f i on) true = plc n (i + 1) f true := plc_congr fun j hj _ => by rw [putB, if_neg (by omega)]
  have ha : ∀ x ∈ plc i 0 f true, x < i := fun x hx => (plc_mem.1 hx).2.1
  have hb : ∀ x ∈ plc n (i + 1) f true, i < x := fun x hx => (plc_mem.1 hx).1
  rw [insR, plc_split (f := f) (Nat.zero_le i) (Nat.le_of_lt hi), plc_split (f := putB f i on) (Nat.zero_le i) (Nat.le_of_lt hi), e1]
  cases on with
  | true =>
    rw [plc_step_no (f := f) hi (by simp [hf]), plc_step_yes (f := putB f i true) hi (by simp [putB]), e2]
    rw [List.foldl_append, show (!true) = false from rfl, fold_lt _ _ ha, List.nil_append]
    cases hc : plc n (i + 1) f true with
    | nil => simp
    | cons x c =>
      have hx := hb x (by rw [hc]; simp)
      rw [List.foldl_cons, show insS i (plc i 0 f true, false) x = (plc i 0 f true ++ [i] ++ [x], true) by rw [insS, if_pos ⟨rfl, hx⟩], fold_put _ _ (fun y hy => by have := hb y (by rw [hc]; exact List.mem_cons_of_mem _ hy); omega)]
      simp
  | false =>
    rw [plc_step_yes (f := f) hi (by simp [hf]), plc_step_no (f := putB f i false) hi (by simp [putB]), e2]
    rw [List.foldl_append, show (!false) = true from rfl, fold_put _ _ (fun x hx => by have := ha x hx; omega), List.nil_append, List.foldl_cons, show insS i (plc i 0 f true, true) i = (plc i 0 f true, true) by rw [insS, if_neg (by simp), if_pos rfl], fold_put _ _ (fun x hx => by have := hb x hx; omega)]
    simp

set_option maxRecDepth 20000 in
set_option maxHeartbeats 1600000 in
theorem rmpset_stays (X n : Nat) (f : Nat → Bool) (A : Option Addr) (z : Int) (on : Bool) (w : World) (h : Xp w X n f A) (hno : setB n f z on = false) :
    Calls Tryd.prog 26 #[.pointer (some ⟨X, 0, none⟩), .int .i64 z, .bool on] w fun e w' => e = .returned (.bool false) ∧ w' = w := by
  have hh := rmphas_any X n f A z w h
  obtain ⟨c, h1, h2⟩ := h.ex
  have c0 : w.cell? ⟨X, 0, none⟩ = some (.int .i64 (n : Int)) := by rw [cell_of_row _ _ _ _ _ _ h1]; rfl
  unfold setB at hno
  clear h h1 h2
  by_cases hz0 : z < 0
  · clear hh hno
    go_enter Tryd.func26, Tryd.ntmps26
    go_wp2_with fail
    go_ret
    exact ⟨rfl, rfl⟩
  · by_cases hzn : (n : Int) ≤ z
    · clear hh hno
      go_enter Tryd.func26, Tryd.ntmps26
      go_wp2_with fail
      go_ret
      exact ⟨rfl, rfl⟩
    · rw [show inB n z = true by simp [inB]; omega, Bool.true_and] at hno hh
      obtain ⟨y, hy⟩ : ∃ y, y = f z.toNat := ⟨_, rfl⟩
      rw [← hy] at hno hh
      have hyo : y = on := by revert hno; cases y <;> cases on <;> simp
      subst hyo
      clear hno hy
      go_enter Tryd.func26, Tryd.ntmps26
      go_wp2_with fail
      refine hh.mono ?_; clear hh; rintro e w1 ⟨rfl, hw1⟩
      obtain rfl : w = w1 := hw1.symm
      go_wp2_with fail
      go_ret
      exact ⟨rfl, rfl⟩

theorem Xp.put {w : World} {X n B j p c c' : Nat} {g : Nat → Bool} {A A' : Option Addr} {l : List Nat} (hX : w.heap[X]? = some (.cells #[.int .i64 (n : Int), .slice A j c] 36 (0, 0))) (hl : l = plc n 0 g true) (hp : p = l.length) (ho : Own w B 3 1 A' p c' (ncells l)) (hlo : ∀ b o, A' = some ⟨b, o, none⟩ → B ≤ b) (hB : X < B) (htop : n ≤ 65536) : Xp (w.setCell ⟨X, 1, none⟩ (.slice A' p c')) X n g A' := by
  have hc : p = cntL n g := by rw [hp, hl]; rfl
  subst hc
  subst hl
  refine ⟨⟨c', ?_, ?_⟩, htop⟩
  · exact heap_setCell_same w X 1 _ _ (.slice A' (cntL n g) c') hX
  · exact ho.sl.fr ((Fr.refl (fun b => b = X) w).setCell (p := ⟨X, 1, none⟩) (.inr rfl) _) (fun b o _ e h => by have := hlo b o e; have h : b = X := h; omega)
set_option maxRecDepth 20000 in
set_option maxHeartbeats 3200000 in
theorem rmpset_turn (X n i : Nat) (f : Nat → Bool) (A : Option Addr) (on : Bool) (w : World) (h : Xp w X n f A) (hi : i < n) (hf : f i = !on) :
    Calls Tryd.prog 26 #[.pointer (some ⟨X, 0, none⟩), .int .i64 (i : Int), .bool on] w fun e w' => e = .returned (.bool true) ∧ ∃ A', Xp w' X n (putB f i on) A' ∧ Fr (fun b => b = X) w w' ∧ ∀ b o, A' = some ⟨b, o, none⟩ → w.heap.size ≤ b := by
  have hh := rmphas_any X n f A (i : Int) w h
  rw [show inB n (i : Int) = true by simp [inB]; omega, Bool.true_and, Int.toNat_natCast] at hh
  have hzb : (f i == on) = false := by rw [hf]; cases on <;> rfl
  have htop := h.top
  have hcn : cntL n f ≤ n := cnt_le
  have H := Lib.hid h
  have Hins := Lib.hid (ins_eq (f := f) (on := on) hi hf)
  obtain ⟨L, hL⟩ : ∃ L, L = plc n 0 f true := ⟨_, rfl⟩
  rw [← hL] at Hins
  have HL := Lib.hid hL
  clear hL
  obtain ⟨y, hy⟩ : ∃ y, y = f i := ⟨_, rfl⟩
  rw [← hy] at hh hzb
  obtain ⟨u, hu⟩ : ∃ u, u = !on := ⟨_, rfl⟩
  have hu2 : (!on) = u := hu.symm
  have Hu := Lib.hid hu
  obtain ⟨q, hq⟩ : ∃ q, q = cntL n f := ⟨_, rfl⟩
  rw [← hq] at hcn
  have Hq := Lib.hid hq
  have HX0 := Lib.hid h.lt
  obtain ⟨c, h1, h2⟩ := h.ex
  have HA0 := Lib.hid (show ∀ b o, A = some ⟨b, o, none⟩ → 0 < cntL n f → b < w.heap.size from fun b o e h0 => h2.lt (by decide) h0 e)
  have c0 : w.cell? ⟨X, 0, none⟩ = some (.int .i64 (n : Int)) := by rw [cell_of_row _ _ _ _ _ _ h1]; rfl
  have hz0 : ¬ (i : Int) < 0 := by omega
  have hzn : ¬ (n : Int) ≤ (i : Int) := by omega
  clear h h1 h2 hq hu hy hf
  go_enter Tryd.func26, Tryd.ntmps26
  go_wp2_with fail
  refine hh.mono ?_; clear hh; rintro e w1 ⟨rfl, hw1⟩
  obtain rfl : w = w1 := hw1.symm
  clear c0
  go_wp2_with fail
  go_loopw [7, 8, 9] (fun l p k wr => ∃ (j : Nat) (r : List Nat × Bool) (A' : Option Addr) (c' : Nat), j ≤ q ∧ k = .int .i64 (j : Int) ∧ p = .bool r.2 ∧ l = .slice A' r.1.length c' ∧ r = (L.take j).foldl (insS i) ([], u) ∧ r.1.length ≤ 2 * j ∧ Own wr w.heap.size 3 1 A' r.1.length c' (ncells r.1) ∧ Below w.heap.size w wr ∧ ∀ b o, A' = some ⟨b, o, none⟩ → w.heap.size ≤ b) (fun _ _ k _ => q - (intOf k).toNat)
  case atStart => exact ⟨0, ([], u), none, 0, by omega, rfl, rfl, rfl, rfl, by simp, Own.full (Sl.nil _ 1 0 (by decide)), Below.refl _ _, fun b o e => by cases e⟩
  case round =>
    obtain ⟨j, r, A', c', hj, rfl, rfl, rfl, hr, hrl, ho, hb, hlo⟩ := hrel
    obtain ⟨c2, h1, h2⟩ := (H.out.later hb).ex
    rw [← Hq.out] at h1 h2
    rw [← HL.out] at h2
    have c1 : wr.cell? ⟨X, 1, none⟩ = some (.slice A q c2) := by rw [cell_of_row _ _ _ _ _ _ h1]; rfl
    have hlen : L.length = q := by rw [HL.out]; exact Hq.out.symm
    obtain ⟨rl, rb⟩ := r
    have hrl : rl.length ≤ 2 * j := hrl
    obtain ⟨p, hp⟩ : ∃ p, p = rl.length := ⟨_, rfl⟩
    have ho2 : Own wr w.heap.size 3 1 A' p c' (ncells rl) := by rw [hp]; exact ho
    have Ho := Lib.hid ho2
    have Hb := Lib.hid hb
    have Hlo := Lib.hid hlo
    have Hr := Lib.hid hr
    have Hp := Lib.hid hp
    show Code.wp _ _ _ _ _
    by_cases hlt : j < q
    · obtain ⟨b, o, rfl, hc⟩ := h2.at_ hlt
      have hjl : j < L.length := by rw [hlen]; exact hlt
      have hcell := hc j _ (ncells_get L j hjl)
      have hnext : (L.take (j + 1)).foldl (insS i) ([], u) = insS i (rl, rb) (L[j]'hjl) := by
        rw [show L.take (j + 1) = L.take j ++ [L[j]'hjl] by simp, List.foldl_append, ← hr]
        rfl
      obtain ⟨x, hx⟩ : ∃ x, x = L[j]'hjl := ⟨_, rfl⟩
      rw [← hx] at hcell hnext
      have Hn := Lib.hid hnext
      have hji : (j : Int) < (q : Int) := by omega
      have hpj : p ≤ 2 * j := by rw [hp]; exact hrl
      have Hpj := Lib.hid hpj
      clear hx hnext hc h1 h2 hlen hjl ho ho2 hb hlo hr hp hrl
      by_cases hput : rb = false ∧ i < x
      · obtain ⟨rfl, hix⟩ := hput
        have hixi : (i : Int) < (x : Int) := by omega
        have hxz : ((x : Int) != (i : Int)) = true := by simp; omega
        have hres : insS i (rl, false) x = (rl ++ [i] ++ [x], true) := by rw [insS, if_pos ⟨rfl, hix⟩]
        have Hres := Lib.hid hres
        clear hres hix
        rw [← Hp.out]
        go_wp2_with (at_builtin; refine wpList_append_i (B := w.heap.size) rfl (.tmp 51) (.tmp 53) rfl rfl (Ho.out.below ((Below.refl _ _).alloc (Nat.le_refl _) _)) ?pa1 (some ⟨wr.heap.size, 0, none⟩) 1 1 [i] rfl (Sl.oneN _ _ _ _ rfl) ?pb1 ?pc1)
        case pa1 => have := Hb.out.size; simp; omega
        case pb1 => omega
        intro A3 c3 w4 ho4 hb4 hrow4
        have B4 := Lib.hid ((Hb.out.alloc Hb.out.size _).trans hb4)
        have H4 := Lib.hid ho4
        have hcell4 := (((Fr.of_belowAt (S := fun k => w.heap.size ≤ k) hb4 (fun k h => h)).trans (Fr.refl _ _)).cell_some (p := ⟨b, o + j, none⟩) ((World.cell?_alloc_lt _ _ _ (World.block_lt_of_cell? wr _ hcell)).trans hcell) (by show ¬ w.heap.size ≤ b; have := HA0.out b o rfl (by rw [← Hq.out]; omega); omega))
        have c14 := (((Fr.of_belowAt (S := fun k => w.heap.size ≤ k) hb4 (fun k h => h)).trans (Fr.refl _ _)).cell_some (p := ⟨X, 1, none⟩) ((World.cell?_alloc_lt _ _ _ (World.block_lt_of_cell? wr _ c1)).trans c1) (by show ¬ w.heap.size ≤ X; have := HX0.out; omega))
        clear ho4 hb4 hrow4 hcell c1
        go_wp2_with (at_builtin; refine wpList_append_i (B := w.heap.size) rfl (.tmp 64) (.tmp 72) rfl rfl (H4.out.below ((Below.refl _ _).alloc (Nat.le_refl _) _)) ?pa2 (some ⟨w4.heap.size, 0, none⟩) 1 1 [x] rfl (Sl.oneN _ _ _ _ rfl) ?pb2 ?pc2)
        case pa2 => have := B4.out.size; simp; omega
        case pb2 => omega
        intro A5 c5 w5 ho5 hb5 hrow5
        have B5 := Lib.hid ((B4.out.alloc B4.out.size _).trans hb5)
        have H5 := Lib.hid ho5
        have HL5 := Lib.hid (own_low hrow5 (by omega))
        clear ho5 hb5 hrow5
        go_wp2_with fail
        go_roundw
        case rel =>
          have hl2 : (rl ++ [i] ++ [x]).length = p + 1 + 1 := by simp [← Hp.out]
          exact ⟨j + 1, (rl ++ [i] ++ [x], true), A5, c5, by omega, by go_num, rfl, by rw [hl2], by rw [Hn.out, Hres.out], by show (rl ++ [i] ++ [x]).length ≤ _; rw [hl2]; omega, by show Own _ _ _ _ _ (rl ++ [i] ++ [x]).length _ (ncells (rl ++ [i] ++ [x])); rw [hl2, ncells_append, ncells_append, List.append_assoc]; exact H5.out, B5.out, HL5.out⟩
        case measure => simp [intOf]; omega
      · by_cases hxi : x = i
        · have hres : insS i (rl, rb) x = (rl, rb) := by rw [insS, if_neg hput, if_pos hxi]
          have Hres := Lib.hid hres
          have hxz : ((x : Int) != (i : Int)) = false := by simp [hxi]
          have hixi : ¬ (i : Int) < (x : Int) := by omega
          clear hres hput hxi
          rw [← Hp.out]
          cases rb
          all_goals
            go_wp2_with fail
            go_roundw
            case rel => exact ⟨j + 1, (rl, _), A', c', by omega, by go_num, rfl, by rw [Hp.out], by rw [Hn.out, Hres.out], by show rl.length ≤ _; rw [← Hp.out]; omega, by show Own _ _ _ _ _ rl.length _ (ncells rl); rw [← Hp.out]; exact Ho.out, Hb.out, Hlo.out⟩
            case measure => simp [intOf]; omega
        · have hres : insS i (rl, rb) x = (rl ++ [x], rb) := by rw [insS, if_neg hput, if_neg hxi]
          have Hres := Lib.hid hres
          have hxz : ((x : Int) != (i : Int)) = true := by simp; omega
          have hixi : rb = false → ¬ (i : Int) < (x : Int) := fun e h => hput ⟨e, by omega⟩
          clear hres hput hxi
          rw [← Hp.out]
          cases rb
          · have hixi2 := hixi rfl
            clear hixi
            go_wp2_with (at_builtin; refine wpList_append_i (B := w.heap.size) rfl (.tmp 64) (.tmp 72) rfl rfl (Ho.out.below ((Below.refl _ _).alloc (Nat.le_refl _) _)) ?pa3 (some ⟨wr.heap.size, 0, none⟩) 1 1 [x] rfl (Sl.oneN _ _ _ _ rfl) ?pb3 ?pc3)
            case pa3 => have := Hb.out.size; simp; omega
            case pb3 => omega
            intro A5 c5 w5 ho5 hb5 hrow5
            have B5 := Lib.hid ((Hb.out.alloc Hb.out.size _).trans hb5)
            have H5 := Lib.hid ho5
            have HL5 := Lib.hid (own_low hrow5 (by omega))
            clear ho5 hb5 hrow5
            go_wp2_with fail
            go_roundw
            case rel =>
              have hl2 : (rl ++ [x]).length = p + 1 := by simp [← Hp.out]
              exact ⟨j + 1, (rl ++ [x], _), A5, c5, by omega, by go_num, rfl, by rw [hl2], by rw [Hn.out, Hres.out], by show (rl ++ [x]).length ≤ _; rw [hl2]; omega, by show Own _ _ _ _ _ (rl ++ [x]).length _ (ncells (rl ++ [x])); rw [hl2, ncells_append]; exact H5.out, B5.out, HL5.out⟩
            case measure => simp [intOf]; omega
          · clear hixi
            go_wp2_with (at_builtin; refine wpList_append_i (B := w.heap.size) rfl (.tmp 64) (.tmp 72) rfl rfl (Ho.out.below ((Below.refl _ _).alloc (Nat.le_refl _) _)) ?pa4 (some ⟨wr.heap.size, 0, none⟩) 1 1 [x] rfl (Sl.oneN _ _ _ _ rfl) ?pb4 ?pc4)
            case pa4 => have := Hb.out.size; simp; omega
            case pb4 => omega
            intro A5 c5 w5 ho5 hb5 hrow5
            have B5 := Lib.hid ((Hb.out.alloc Hb.out.size _).trans hb5)
            have H5 := Lib.hid ho5
            have HL5 := Lib.hid (own_low hrow5 (by omega))
            clear ho5 hb5 hrow5
            go_wp2_with fail
            go_roundw
            case rel =>
              have hl2 : (rl ++ [x]).length = p + 1 := by simp [← Hp.out]
              exact ⟨j + 1, (rl ++ [x], _), A5, c5, by omega, by go_num, rfl, by rw [hl2], by rw [Hn.out, Hres.out], by show (rl ++ [x]).length ≤ _; rw [hl2]; omega, by show Own _ _ _ _ _ (rl ++ [x]).length _ (ncells (rl ++ [x])); rw [hl2, ncells_append]; exact H5.out, B5.out, HL5.out⟩
            case measure => simp [intOf]; omega
    · have hji : ¬ (j : Int) < (q : Int) := by omega
      obtain rfl : j = q := by omega
      have htk : L.take j = L := List.take_of_length_le (by rw [hlen]; exact Nat.le_refl _)
      rw [htk] at Hr
      have hpj : p ≤ 2 * j := by rw [hp]; exact hrl
      have hinsr := Hins.out
      rw [insR, ← Hu.out, ← Hr.out] at hinsr
      have HI := Lib.hid hinsr
      have c0' : wr.cell? ⟨X, 1, none⟩ = some (.slice A j c2) := c1
      have hfz : wr.frozen? ⟨X, 1, none⟩ = false := frozen_of_row _ _ _ _ _ h1
      have Hx := Lib.hid h1
      clear h1 h2 hlen htk hinsr ho ho2 hb hlo hr hp hrl c1
      rw [← Hp.out]
      cases rb
      · have Hfin := Lib.hid (show rl ++ [i] = plc n 0 (putB f i on) true from HI.out)
        clear HI
        go_wp2_with (at_builtin; refine wpList_append_i (B := w.heap.size) rfl (.tmp 76) (.tmp 78) rfl rfl (Ho.out.below ((Below.refl _ _).alloc (Nat.le_refl _) _)) ?pa7 (some ⟨wr.heap.size, 0, none⟩) 1 1 [i] rfl (Sl.oneN _ _ _ _ rfl) ?pb7 ?pc7)
        case pa7 => have := Hb.out.size; simp; omega
        case pb7 => omega
        intro A5 c5 w5 ho5 hb5 hrow5
        have B5 := Lib.hid ((Hb.out.alloc Hb.out.size _).trans hb5)
        have H5 := Lib.hid ho5
        have HL5 := Lib.hid (own_low hrow5 (by omega))
        have hX5 : w5.heap[X]? = some (.cells #[.int .i64 (n : Int), .slice A j c2] 36 (0, 0)) := (hb5.block X HX0.out).trans ((Below.heap_alloc _ _ _ (block_lt Hx.out)).trans Hx.out)
        have c15 : w5.cell? ⟨X, 1, none⟩ = some (.slice A j c2) := by rw [cell_of_row _ _ _ _ _ _ hX5]; rfl
        have hf5 : w5.frozen? ⟨X, 1, none⟩ = false := frozen_of_row _ _ _ _ _ hX5
        have HX5 := Lib.hid hX5
        clear ho5 hb5 hrow5 hX5
        go_wp2_with fail
        go_ret
        refine ⟨rfl, A5, Xp.put HX5.out Hfin.out (by rw [List.length_append, List.length_singleton, ← Hp.out]) (by rw [ncells_append]; exact H5.out) HL5.out HX0.out htop, ?_, HL5.out⟩
        exact ((Fr.of_below B5.out : Fr (fun b => b = X) w w5)).setCell (p := ⟨X, 1, none⟩) (.inr rfl) _
      · have Hfin := Lib.hid (show rl = plc n 0 (putB f i on) true from HI.out)
        clear HI
        go_wp2_with fail
        go_ret
        exact ⟨rfl, A', Xp.put Hx.out Hfin.out Hp.out Ho.out Hlo.out HX0.out htop, (Fr.of_below Hb.out : Fr (fun b => b = X) w wr).setCell (p := ⟨X, 1, none⟩) (.inr rfl) _, Hlo.out⟩
theorem rmpset_any (X n : Nat) (f : Nat → Bool) (A : Option Addr) (z : Int) (on : Bool) (w : World) (h : Xp w X n f A) :
    Calls Tryd.prog 26 #[.pointer (some ⟨X, 0, none⟩), .int .i64 z, .bool on] w fun e w' => e = .returned (.bool (setB n f z on)) ∧ ∃ A', Xp w' X n (setF n f z on) A' ∧ Fr (fun b => b = X) w w' ∧ ((A' = A ∧ setF n f z on = f) ∨ ∀ b o, A' = some ⟨b, o, none⟩ → w.heap.size ≤ b) := by
  by_cases hs : setB n f z on = true
  · have hin : inB n z = true := by unfold setB at hs; revert hs; cases inB n z <;> simp
    have hne : f z.toNat = !on := by unfold setB at hs; rw [hin] at hs; revert hs; cases f z.toNat <;> cases on <;> simp
    have hi : 0 ≤ z ∧ z < (n : Int) := by simpa [inB] using hin
    have := rmpset_turn X n z.toNat f A on w h (by omega) hne
    rw [show ((z.toNat : Nat) : Int) = z by omega] at this
    rw [hs, setF, if_pos hin]
    refine this.mono ?_
    rintro e w' ⟨rfl, A', h1, h2, h3⟩
    exact ⟨rfl, A', h1, h2, .inr h3⟩
  · have hs2 : setB n f z on = false := by simpa using hs
    rw [hs2, setF_same hs2]
    refine (rmpset_stays X n f A z on w h hs2).mono ?_
    rintro e w' ⟨rfl, rfl⟩
    exact ⟨rfl, A, h, Fr.refl _ _, .inl ⟨rfl, rfl⟩⟩
end Go.Proofs.YthkflghekgbgcaaDoor

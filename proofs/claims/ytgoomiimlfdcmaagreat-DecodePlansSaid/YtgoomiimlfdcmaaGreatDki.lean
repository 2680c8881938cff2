/-
  The contract of the document's Data of layer 6. Condition: the rows are k of data and m of parity; bounds. (Written by gen_dki.py.)
-/
import Derived.Test.YtgoomiimlfdcmaaGreatDkh
import Derived.Test.YtgoomiimlfdcmaaGreatDli
namespace Go.Proofs.YtgoomiimlfdcmaaGreat
open Go.RowKit Go.Proofs
set_option linter.unusedVariables false

/-- Equations that grow by append, in a slice of the call's own; their bytes lie elsewhere. -/
structure GE (w : World) (B : Nat) (A : Option Addr) (n c k W : Nat) (M : Mx) : Prop where
  ex : ∃ vs : List Value, Own w B 83 2 A n c vs ∧ ∀ a, a < n → ∃ B1 d B2 d2, vs[a * 2]? = some (Value.slice B1 k d) ∧ vs[a * 2 + 1]? = some (Value.slice B2 W d2) ∧ Sl w 1 B1 k d (cells (rowL k (M a))) ∧ Sl w 1 B2 W d2 (cells (rowL W fun p => M a (k + p))) ∧ Oth A B1 k ∧ Oth A B2 W
  own : ∀ b o, A = some ⟨b, o, none⟩ → B ≤ b ∧ b < w.heap.size
theorem GE.nil (w : World) (B k W : Nat) (M : Mx) : GE w B none 0 0 k W M := ⟨⟨[], Own.full (Sl.nil w 2 0 (by decide)), fun a h => absurd h (by omega)⟩, fun b o e => by cases e⟩
theorem GE.later {w w' : World} {B n c k W : Nat} {A : Option Addr} {M : Mx} (h : GE w B A n c k W M) (hb : Below w.heap.size w w') : GE w' B A n c k W M := by
  obtain ⟨vs, hs, hr⟩ := h.ex
  refine ⟨⟨vs, hs.below hb, fun a ha => ?_⟩, fun b o e => ⟨(h.own b o e).1, Nat.lt_of_lt_of_le (h.own b o e).2 hb.size⟩⟩
  obtain ⟨B1, d, B2, d2, h1, h2, h3, h4, h5, h6⟩ := hr a ha
  exact ⟨B1, d, B2, d2, h1, h2, h3.below hb (Nat.le_refl _), h4.below hb (Nat.le_refl _), h5, h6⟩
theorem one_eq {vs : List Value} {n k W : Nat} (hl : vs.length = n * 2) (h : ∀ a, a < n → ∃ B1 d B2 d2, vs[a * 2]? = some (Value.slice B1 k d) ∧ vs[a * 2 + 1]? = some (Value.slice B2 W d2)) : ∀ u ∈ vs, u.oneCell' = true := by
  intro u hu
  obtain ⟨i, hi, rfl⟩ := List.mem_iff_getElem.1 hu
  obtain ⟨B, d, B2, d2, h1, h2⟩ := h (i / 2) (by omega)
  rcases Nat.mod_two_eq_zero_or_one i with h' | h'
  · rw [show i / 2 * 2 = i by omega, List.getElem?_eq_getElem hi] at h1
    injection h1 with h1
    rw [h1]; rfl
  · rw [show i / 2 * 2 + 1 = i by omega, List.getElem?_eq_getElem hi] at h2
    injection h2 with h2
    rw [h2]; rfl

theorem step_append_e {ops : Array Oper} {o : Oper} {a : Act} {w : World} {K : Act → World → Prop} {Q : Exit → Act → World → Prop} {E : Prop} {B n c k W g : Nat} {A : Option Addr} {M : Mx} (hgd : o.guard = none) (s x : Operand)
    (ho : o.op = .call { callee := .builtin .append, args := #[s, x], argTypes := #[81, 81] })
    (hv : a.eval s = .slice A n c) (h : GE w B A n c k W M) (hB : B ≤ w.heap.size) (A1 : Option Addr) (c1 : Nat) (A2 : Option Addr) (c2 : Nat) (hr1 : Sl w 1 A1 k c1 (cells (rowL k (M n)))) (hr2 : Sl w 1 A2 W c2 (cells (rowL W fun p => M n (k + p)))) (ho1 : Oth A A1 k) (ho2 : Oth A A2 W)
    (hg : w.heap[g]? = some (.cells #[.slice A1 k c1, .slice A2 W c2] 83 (0, 0))) (hx : a.eval x = .slice (some ⟨g, 0, none⟩) 1 1) (h40 : n + 1 ≤ 1048576)
    (hk : ∀ A' c' w', GE w' B A' (n + 1) c' k W M → Fr (Blk A) w w' → K (a.put o.dst (.slice A' (n + 1) c')) w') :
    if Region.wanted o (yielded ops a.tmps) = true then Oper.wp Tryz.prog o a w K Q else E := by
  have hw : Region.wanted o (yielded ops a.tmps) = true := by simp [Region.wanted, hgd]
  rw [if_pos hw]
  have hs : Sl w 2 (some ⟨g, 0, none⟩) 1 1 [.slice A1 k c1, .slice A2 W c2] := ⟨rfl, Nat.le_refl _, by decide, fun j u hu => ⟨g, 0, rfl, by rw [cell_of_row _ _ _ _ _ _ hg, Nat.zero_add]; simpa using hu⟩⟩
  obtain ⟨i0, hi, hz0, hz1, hz2⟩ := info_parts info_eq6
  obtain ⟨vs, hown, hrs⟩ := h.ex
  obtain ⟨A', c', w', hrun, h2, hfr, hA', hown'⟩ := run_append_fr (P := Tryz.prog) 81 81 o.type i0 (.agg #[.slice none 0 0, .slice none 0 0]) 48 Tryz.underlying81 hi hz0 hz1 hz2 rfl (by decide) hown hB h.own (.slice (some ⟨g, 0, none⟩) 1 1) 1 [.slice A1 k c1, .slice A2 W c2] (hs.src Tryz.underlying81 (by decide) (fun u hu => by simp at hu; rcases hu with rfl | rfl <;> rfl)) (by unfold maxLen; omega) (by omega)
  unfold Oper.wp execOp
  simp only [ho, resolve, invoke, builtin, Sem.run_bind, Sem.run_pure, Result.andThen_ok, List.map_toArray, List.map_cons, List.map_nil, hv, hx, hrun]
  have hvl := hown.sl.len
  have new : ∀ (A'' : Option Addr) (c'' m : Nat) (l : List UInt8), Sl w 1 A'' m c'' (cells l) → Oth A A'' m → Sl w' 1 A'' m c'' (cells l) ∧ Oth A' A'' m := by
    intro A'' c'' m l hsr hot
    refine ⟨hsr.oth hfr hot, fun b o o' hn e e' => ?_⟩
    rcases hA' with rfl | rfl
    · exact hot b o o' hn e e'
    · injection e' with e'
      injection e' with e' _
      have := hsr.lt (by decide) hn e
      omega
  refine hk A' c' w' ⟨⟨vs ++ [.slice A1 k c1, .slice A2 W c2], h2, fun i hi' => ?_⟩, hown'⟩ hfr
  rcases Nat.lt_or_ge i n with hlt | hge
  · obtain ⟨B1, d, B2, d2, e1, e2, e3, e4, e5, e6⟩ := hrs i hlt
    have n1 := new _ _ _ _ e3 e5
    have n2 := new _ _ _ _ e4 e6
    exact ⟨B1, d, B2, d2, by rw [List.getElem?_append_left (by omega)]; exact e1, by rw [List.getElem?_append_left (by omega)]; exact e2, n1.1, n2.1, n1.2, n2.2⟩
  · obtain rfl : i = n := by omega
    have n1 := new _ _ _ _ hr1 ho1
    have n2 := new _ _ _ _ hr2 ho2
    exact ⟨A1, c1, A2, c2, by rw [List.getElem?_append_right (by omega), hvl, Nat.sub_self]; rfl, by rw [List.getElem?_append_right (by omega), hvl, show i * 2 + 1 - i * 2 = 1 from by omega]; rfl, n1.1, n2.1, n1.2, n2.2⟩

/-- The equations of these shards: their factors, and their bytes. -/
def eqM (k : Nat) (rs : List (List UInt8)) (t : List Nat) : Mx := fun a c => if c < k then facB k (t.getD a 0) c else (rs.getD (t.getD a 0) []).getD (c - k) 0
theorem eqM_fac (k : Nat) (rs : List (List UInt8)) (t : List Nat) (a : Nat) : rowL k (eqM k rs t a) = rowC k (t.getD a 0) := rowL_congr fun c hc => if_pos hc
theorem eqM_row (k : Nat) (rs : List (List UInt8)) (t : List Nat) (a W : Nat) (h : (rs.getD (t.getD a 0) []).length = W) : (rowL W fun p => eqM k rs t a (k + p)) = rs.getD (t.getD a 0) [] := by
  obtain ⟨r, hr⟩ : ∃ r, r = rs.getD (t.getD a 0) [] := ⟨_, rfl⟩
  rw [← hr] at h ⊢
  apply List.ext_getElem
  · rw [rowL_length, h]
  · intro i h1 h2
    have e := rowL_get W (fun p => eqM k rs t a (k + p)) i (by rw [rowL_length] at h1; exact h1)
    rw [List.getElem?_eq_getElem h1] at e
    injection e with e
    rw [e]
    show (if k + i < k then _ else (rs.getD (t.getD a 0) []).getD (k + i - k) 0) = _
    rw [if_neg (by omega), ← hr, show k + i - k = i from by omega]
    simp [h2]
/-- The data, by an inverse of the factors. -/
def solD (k : Nat) (X : Mx) (rs : List (List UInt8)) (t : List Nat) : Mx := fun j p => xs k fun a => gm (X j a) ((rs.getD (t.getD a 0) []).getD p 0)
def dataL (k W : Nat) (D : Mx) : List (List UInt8) := (List.range k).map fun j => rowL W (D j)
theorem mul_sol {k : Nat} {X : Mx} {rs : List (List UInt8)} {t : List Nat} (f : Nat → UInt8) (p : Nat) : (xs k fun j => gm (f j) (solD k X rs t j p)) = xs k fun a => gm (xs k fun j => gm (f j) (X j a)) ((rs.getD (t.getD a 0) []).getD p 0) := by
  have h := congrFun (congrFun (mm_assoc k k (fun _ => f) X (fun a q => (rs.getD (t.getD a 0) []).getD q 0)) 0) p
  exact h.symm
theorem sol_of {k W : Nat} {X : Mx} {rs : List (List UInt8)} {t : List Nat} (hX : Alike k k (mm k X (facM k t)) one) : Sol k W (solD k X rs t) (eqM k rs t) := by
  intro a ha p hp
  have e1 : (xs k fun b => gm (eqM k rs t a b) (solD k X rs t b p)) = xs k fun b => gm (facB k (t.getD a 0) b) (solD k X rs t b p) := xs_congr k fun b hb => by rw [eqM, if_pos hb]
  rw [e1, mul_sol]
  have hb := inverse_both hX
  have e2 : (xs k fun a' => gm (xs k fun j => gm (facB k (t.getD a 0) j) (X j a')) ((rs.getD (t.getD a' 0) []).getD p 0)) = xs k fun a' => gm (one a a') ((rs.getD (t.getD a' 0) []).getD p 0) := xs_congr k fun a' ha' => by
    rw [show (xs k fun j => gm (facB k (t.getD a 0) j) (X j a')) = one a a' from hb a ha a' ha']
  rw [e2, xs_one a k ha (fun i hi hne => by rw [one, if_neg (fun e => hne e.symm), zero_gm]), one, if_pos rfl, one_gm, eqM, if_neg (by omega), show k + p - k = p from by omega]
theorem inj_eq {k : Nat} {X : Mx} {rs : List (List UInt8)} {t : List Nat} (hX : Alike k k (mm k X (facM k t)) one) : Inj k (eqM k rs t) := by
  have h := inj_of_left hX
  intro v hv j hj
  refine h v (fun i hi => ?_) j hj
  rw [← hv i hi]
  exact xs_congr k fun b hb => by rw [eqM, if_pos hb]; rfl

theorem rightX_ok {k m : Nat} {rs : List (List UInt8)} (h : rightX k m rs = 0) : rs.length = k + m ∧ levelT rs = true ∧ k ≤ (thereL rs rs.length).length := by
  unfold rightX at h
  by_cases h1 : rs.length ≠ k + m
  · rw [if_pos h1] at h; exact absurd h (by decide)
  · rw [if_neg h1] at h
    by_cases h2 : levelT rs = false
    · rw [if_pos h2] at h; exact absurd h (by decide)
    · rw [if_neg h2] at h
      by_cases h3 : (thereL rs rs.length).length < k
      · rw [if_pos h3] at h; exact absurd h (by decide)
      · exact ⟨Decidable.not_not.1 h1, by simpa using h2, by omega⟩
theorem mine_new {w' : World} {A : Option Addr} {n B : Nat} {e : TypeId} {l : List Value} (h : Mine w' B e A n l) {b o : Nat} (hn : 0 < n) (hA : A = some ⟨b, o, none⟩) : B ≤ b := by
  obtain ⟨g, cur, e', hb, _⟩ := h hn
  rw [hA] at e'
  injection e' with e'
  injection e' with e' _
  omega

set_option maxRecDepth 20000 in
set_option maxHeartbeats 800000 in
theorem rrow5_mine (k m I : Nat) (hI : I < k + m) (h1 : 1 ≤ k) (h3 : k + m ≤ 255) (w : World) :
    Calls Tryz.prog 21 #[.int .i64 (k : Int), .int .i64 (m : Int), .int .i64 (I : Int)] w (RetMine w.heap.size w (rowC k I)) := by
  have hI2 : (I : Int) < (k : Int) + (m : Int) := by omega
  go_enter Tryz.func21, Tryz.ntmps21
  go_wp2_with fail
  go_loopw [7, 8] (fun v i wr => ∃ (j : Nat) (A' : Option Addr) (c' : Nat), j ≤ k ∧ i = .int .i64 (j : Int) ∧ v = .slice A' j c' ∧ Grow wr w.heap.size A' j c' ((rowC k I).take j) ∧ Below w.heap.size w wr) (fun _ i _ => k - (intOf i).toNat)
  case atStart => exact ⟨0, none, 0, by omega, rfl, rfl, Grow.nil _ _, Below.refl _ _⟩
  case round =>
    obtain ⟨j, A', c', hj, rfl, rfl, ho, hb⟩ := hrel
    have Ho := Lib.hid ho; clear ho
    by_cases hlt : j < k
    · go_wp2_with fail
      refine (rfactor_any k I j (by omega) hlt (by omega) _).mono ?_; rintro e w' ⟨rfl, rfl⟩
      have hsz := hb.size
      go_wp2_with (at_builtin; refine wpList_append_bm (B := w.heap.size) rfl (.tmp 25) (.tmp 30) rfl rfl (Ho.out.own.alloc _) ?c1 (some ⟨w'.heap.size, 0, none⟩) 1 1 [facB k I j] rfl (Sl.one _ _ _ _ rfl) ?c3 ?c4)
      case c1 => simp; omega
      case c3 => omega
      intro A2 c2 w2 ho2 hb2 hr2
      have hG : Grow w2 w.heap.size A2 (j + 1) c2 ((rowC k I).take (j + 1)) := by
        rw [← List.take_append_getElem (show j < (rowC k I).length by rw [rowC_length]; exact hlt), show (rowC k I)[j]'(by rw [rowC_length]; exact hlt) = facB k I j from by simp [rowC]]
        exact ⟨by rw [cells_append]; exact ho2, fun h => by rw [cells_append]; exact hr2⟩
      have HG := Lib.hid hG
      have Hb2 := Lib.hid ((hb.alloc hb.size _).trans hb2)
      clear hG ho2 hr2 hb2
      go_wp2_with fail
      go_roundw
      case rel => exact ⟨j + 1, A2, c2, by omega, by go_num, rfl, HG.out, Hb2.out⟩
      case measure => simp [intOf]; omega
    · obtain rfl : j = k := by omega
      go_wp2_with fail
      go_ret
      have hG := Ho.out
      rw [List.take_of_length_le (by rw [rowC_length]; exact Nat.le_refl _)] at hG
      exact ⟨A', _, c', rfl, hG.own.sl, hb, fun hn => Mine.of_own (hG.row hn) hn⟩

set_option maxRecDepth 20000 in
set_option maxHeartbeats 1600000 in
theorem rdata_no (k m : Nat) (h3 : k + m ≤ 255) (A : Option Addr) (n c : Nat) (rs : List (List UInt8)) (w : World) (hg : Gr w A n c rs) (hn : n ≤ 1048576) (hr : rightX k m rs ≠ 0) :
    Calls Tryz.prog 14 #[.int .i64 (k : Int), .int .i64 (m : Int), .slice A n c] w fun e w' => e = .returned (.tuple #[.slice none 0 0, .int .i64 (rightX k m rs)]) ∧ Below w.heap.size w w' := by
  have hh := right6_any k m h3 A n c rs w hg hn
  obtain ⟨x, hx⟩ : ∃ x, x = rightX k m rs := ⟨_, rfl⟩
  rw [← hx] at hh hr ⊢
  have hb : (x != 0) = true := by simpa using hr
  have Hb := Lib.hid hb
  clear hx hg
  go_enter Tryz.func14, Tryz.ntmps14
  go_wp2_with fail
  refine hh.mono ?_; clear hh; rintro e w1 ⟨rfl, hb1⟩
  go_wp2_with fail
  go_ret2
  exact ⟨rfl, hb1⟩

set_option maxRecDepth 20000 in
set_option maxHeartbeats 3200000 in
theorem rdata_yes (k m : Nat) (h1 : 1 ≤ k) (h3 : k + m ≤ 255) (A : Option Addr) (n c : Nat) (rs : List (List UInt8)) (X : Mx) (w : World) (hg : Gr w A n c rs) (hn : n ≤ 1048576) (hW : ∀ r ∈ rs, r.length ≤ 1048576) (hr : rightX k m rs = 0) (hX : Alike k k (mm k X (facM k ((thereL rs n).take k))) one) :
    Calls Tryz.prog 14 #[.int .i64 (k : Int), .int .i64 (m : Int), .slice A n c] w fun e w' => (∃ g, e = .returned (.tuple #[.slice (some ⟨g, 0, none⟩) k k, .int .i64 0]) ∧ Gr w' (some ⟨g, 0, none⟩) k k (dataL k (rs.getD ((thereL rs n).getD 0 0) []).length (solD k X rs ((thereL rs n).take k)))) ∧ Below w.heap.size w w' := by
  have hlen := hg.len
  obtain ⟨hnk, hlv, hkq⟩ := rightX_ok hr
  rw [hlen] at hnk hkq
  obtain ⟨t, htd⟩ : ∃ t, t = thereL rs n := ⟨_, rfl⟩
  obtain ⟨W, hWd⟩ : ∃ W, W = (rs.getD ((thereL rs n).getD 0 0) []).length := ⟨_, rfl⟩
  have hlt : ∀ a, a < k → (t.take k).getD a 0 < n := fun a ha => by rw [take_getD ha, htd]; exact thereL_lt (by omega)
  have hwid : ∀ a, a < k → (rs.getD ((t.take k).getD a 0) []).length = W := fun a ha => by
    have := (of_decide_eq_true hlv) a (by rw [hlen]; omega)
    rw [hlen] at this
    rw [take_getD ha, htd, this, hWd]
  have hW1 : W ≤ 1048576 := by
    have h0 := hlt 0 (by omega)
    rw [← hwid 0 (by omega)]
    exact hW _ (List.mem_of_getElem? (hg.get h0))
  have hh := right6_any k m h3 A n c rs w hg hn
  rw [hr] at hh
  rw [← hWd, ← htd]
  rw [← htd] at hX hkq
  obtain ⟨T, hTd⟩ : ∃ T, T = t.take k := ⟨_, rfl⟩
  rw [← hTd] at hX hlt hwid ⊢
  have HTd := Lib.hid hTd
  clear hTd
  have Hnk := Lib.hid hnk
  have HX := Lib.hid hX
  have Hg := Lib.hid hg
  have Hlt := Lib.hid hlt
  have Hwid := Lib.hid hwid
  have Htd := Lib.hid htd
  clear hX hg hlt hwid htd hlv hWd hW hr hnk hlen
  go_enter Tryz.func14, Tryz.ntmps14
  go_wp2_with fail
  refine hh.mono ?_; clear hh; rintro e w1 ⟨rfl, hb1⟩
  have hz1 := hb1.size
  have hh := there6_any A n c rs w1 (Hg.out.later hb1) hn
  have Hb1 := Lib.hid hb1
  clear hb1
  go_wp2_with fail
  refine hh.mono ?_; clear hh; rintro e w2 ⟨⟨B, q, d, rfl, hs⟩, hb2⟩
  rw [← Htd.out] at hs
  have hqt : t.length = q := by
    have := hs.len
    rw [ncells_length] at this
    omega
  have hkq2 : k ≤ q := by omega
  have Hs := Lib.hid (sl_takeN hs hkq2)
  have Hb2 := Lib.hid (Hb1.out.trans (hb2.mono hz1))
  have hz2 := Hb2.out.size
  rw [← HTd.out] at Hs
  have hTl : T.length = k := by rw [HTd.out, List.length_take]; omega
  have HTl := Lib.hid hTl
  clear hb2 hs hqt hTl hkq Htd
  go_wp2_with fail
  go_loopw [10, 11] (fun ev iv wr => ∃ (a : Nat) (A' : Option Addr) (c' : Nat), a ≤ k ∧ iv = .int .i64 (a : Int) ∧ ev = .slice A' a c' ∧ GE wr w2.heap.size A' a c' k W (eqM k rs T) ∧ Below w2.heap.size w2 wr) (fun _ iv _ => k - (intOf iv).toNat)
  case atStart => exact ⟨0, none, 0, by omega, rfl, rfl, GE.nil _ _ _ _ _, Below.refl _ _⟩
  case round =>
    obtain ⟨wl, rfl⟩ : ∃ x, x = wr := ⟨_, rfl⟩
    obtain ⟨a, A', c', ha, rfl, rfl, hG, hb⟩ := hrel
    have G := Lib.hid hG
    have Hb := Lib.hid hb
    have hszl := hb.size
    clear hG hb
    by_cases hlt : a < k
    · have hxa := Hlt.out a hlt
      have hxkm : T.getD a 0 < k + m := by rw [← Hnk.out]; exact hxa
      obtain ⟨gb, go, rfl, hcn⟩ := Hs.out.at_ hlt
      have m0 := hcn a _ (ncells_get T a (by rw [HTl.out]; exact hlt))
      rw [show T[a]'(by rw [HTl.out]; exact hlt) = T.getD a 0 from by simp [show a < T.length by rw [HTl.out]; exact hlt]] at m0
      obtain ⟨b, o, rfl, hcr⟩ := (Hg.out.later Hb2.out).at_ (by omega)
      obtain ⟨Ar, cr, q0, sr⟩ := hcr _ _ (Hg.out.get hxa)
      rw [Hwid.out a hlt] at q0 sr
      have e1 := eqM_fac k rs T a
      have e2 := eqM_row k rs T a W (Hwid.out a hlt)
      obtain ⟨x, hx⟩ : ∃ x, x = T.getD a 0 := ⟨_, rfl⟩
      rw [← hx] at m0 q0 sr hxa hxkm e1 e2
      have hgb := World.block_lt_of_cell? w2 _ m0
      have hgo := World.block_lt_of_cell? w2 _ q0
      have hn1 : ¬ Blk A' gb := fun ⟨o', e⟩ => by have := (G.out.own _ _ e).1; have : gb < w2.heap.size := hgb; omega
      have hn2 : ¬ Blk A' b := fun ⟨o', e⟩ => by have := (G.out.own _ _ e).1; have : b < w2.heap.size := hgo; omega
      have M0 := Lib.hid ((Hb.out.cell hgb).trans m0)
      have Q0 := Lib.hid ((Hb.out.cell hgo).trans q0)
      have Hn1 := Lib.hid hn1
      have Hn2 := Lib.hid hn2
      have Sr := Lib.hid (sr.below Hb.out (Nat.le_refl _))
      have hoth : Oth A' Ar W := fun b1 o1 o2 hn e e' => by
        have h5 := sr.lt (by decide) hn e
        have := (G.out.own _ _ e').1
        omega
      have Ho2 := Lib.hid hoth
      have E1 := Lib.hid e1
      have E2 := Lib.hid e2
      have hai : (a : Int) < (q : Int) := by omega
      have haq : a < q := by omega
      have hxi : (x : Int) < (n : Int) := by omega
      have hki : (a : Int) < (k : Int) := by omega
      clear hcn m0 hcr q0 sr hx hgb hgo hn1 hn2 hoth e1 e2
      go_upto_region 9 with (fail)
      have bd : Below wl.heap.size wl wl.drew := Below.drew (Below.refl _ _)
      have Gd := Lib.hid (G.out.later bd)
      have Srd := Lib.hid (Sr.out.below bd (Nat.le_refl _))
      clear bd
      refine wp_region_held_drew (S := fun w' => Fr (Blk A') wl w') (by kernel_rfl) (Fr.drew (Fr.refl _ _)) (fun hHeld => ?_)
      clear hHeld
      have hHeld : Fr (Blk A') wl wl.drew := Fr.drew (Fr.refl _ _)
      have hz_0 : wl.heap.size ≤ wl.drew.heap.size := Nat.le_refl _
      obtain ⟨v_1, hw⟩ : ∃ v_1, v_1 = wl.drew := ⟨_, rfl⟩
      rw [← hw] at hHeld hz_0 Gd Srd ⊢
      clear hw
      refine wpAnyH_take (i := 0) (oi := ⟨some 26, _, _, _, _, _⟩) (v := ?vg0_2) rfl (by kernel_rfl) (by kernel_rfl) (by kernel_rfl) (fun _ _ _ h => h) (Or.inl ⟨by rfl, ?yg0_2⟩) hHeld ?rg0_2
      case yg0_2 =>
        intro wq hSw
        (try dsimp only at hSw)
        first | (go_simp; done) | (go_simp; with_reducible rfl)
      try simp only [Act.put, List.setIfInBounds_toArray, List.set_cons_zero, List.set_cons_succ]
      refine wpAnyH_take (i := 1) (oi := ⟨some 27, _, _, _, _, _⟩) (v := ?vg1_3) rfl (by kernel_rfl) (by kernel_rfl) (by kernel_rfl) (fun _ _ _ h => h) (Or.inl ⟨by rfl, ?yg1_3⟩) hHeld ?rg1_3
      case yg1_3 =>
        intro wq hSw
        (try dsimp only at hSw)
        first | (go_simp; done) | (go_simp; with_reducible rfl)
      try simp only [Act.put, List.setIfInBounds_toArray, List.set_cons_zero, List.set_cons_succ]
      refine wpAnyH_take (i := 2) (oi := ⟨some 28, _, _, _, _, _⟩) (v := ?vg2_4) rfl (by kernel_rfl) (by kernel_rfl) (by kernel_rfl) (fun _ _ _ h => h) (Or.inl ⟨by rfl, ?yg2_4⟩) hHeld ?rg2_4
      case yg2_4 =>
        intro wq hSw
        (try dsimp only at hSw)
        first | (go_simp; done) | (go_simp; with_reducible rfl)
      try simp only [Act.put, List.setIfInBounds_toArray, List.set_cons_zero, List.set_cons_succ]
      refine wpAnyH_take (i := 3) (oi := ⟨some 29, _, _, _, _, _⟩) (v := ?vg3_5) rfl (by kernel_rfl) (by kernel_rfl) (by kernel_rfl) (fun _ _ _ h => h) (Or.inl ⟨by rfl, ?yg3_5⟩) hHeld ?rg3_5
      case yg3_5 =>
        intro wq hSw
        (try dsimp only at hSw)
        first | (go_simp; done) | (go_simp; with_reducible rfl)
      try simp only [Act.put, List.setIfInBounds_toArray, List.set_cons_zero, List.set_cons_succ]
      refine wpAnyH_take (i := 4) (oi := ⟨some 30, _, _, _, _, _⟩) (v := ?vg4_6) rfl (by kernel_rfl) (by kernel_rfl) (by kernel_rfl) (fun _ _ _ h => h) (Or.inl ⟨by rfl, ?yg4_6⟩) hHeld ?rg4_6
      case yg4_6 =>
        intro wq hSw
        (try dsimp only at hSw)
        first | (go_simp; done) | (go_simp; with_reducible rfl)
      try simp only [Act.put, List.setIfInBounds_toArray, List.set_cons_zero, List.set_cons_succ]
      refine wpAnyH_take (i := 5) (oi := ⟨some 31, _, _, _, _, _⟩) (v := ?vg5_7) rfl (by kernel_rfl) (by kernel_rfl) (by kernel_rfl) (fun _ _ _ h => h) (Or.inl ⟨by rfl, ?yg5_7⟩) hHeld ?rg5_7
      case yg5_7 =>
        intro wq hSw
        (try dsimp only at hSw)
        first | (go_simp; done) | (go_simp; with_reducible rfl)
      try simp only [Act.put, List.setIfInBounds_toArray, List.set_cons_zero, List.set_cons_succ]
      refine wpAnyH_take (i := 6) (oi := ⟨some 32, _, _, _, _, _⟩) (v := ?vg6_8) rfl (by kernel_rfl) (by kernel_rfl) (by kernel_rfl) (fun _ _ _ h => h) (Or.inl ⟨by rfl, ?yg6_8⟩) hHeld ?rg6_8
      case yg6_8 =>
        intro wq hSw
        (try dsimp only at hSw)
        have q0 := hSw.cell_some M0.out Hn1.out
        first | (go_simp; done) | (go_simp; with_reducible rfl)
      try simp only [Act.put, List.setIfInBounds_toArray, List.set_cons_zero, List.set_cons_succ]
      refine wpAnyH_take (i := 8) (oi := ⟨some 34, _, _, _, _, _⟩) (v := ?vg8_9) rfl (by kernel_rfl) (by kernel_rfl) (by kernel_rfl) (fun _ _ _ h => h) (Or.inl ⟨by rfl, ?yg8_9⟩) hHeld ?rg8_9
      case yg8_9 =>
        intro wq hSw
        (try dsimp only at hSw)
        first | (go_simp; done) | (go_simp; with_reducible rfl)
      try simp only [Act.put, List.setIfInBounds_toArray, List.set_cons_zero, List.set_cons_succ]
      refine wpAnyH_take (i := 9) (oi := ⟨some 35, _, _, _, _, _⟩) (v := ?vg9_10) rfl (by kernel_rfl) (by kernel_rfl) (by kernel_rfl) (fun _ _ _ h => h) (Or.inl ⟨by rfl, ?yg9_10⟩) hHeld ?rg9_10
      case yg9_10 =>
        intro wq hSw
        (try dsimp only at hSw)
        first | (go_simp; done) | (go_simp; with_reducible rfl)
      try simp only [Act.put, List.setIfInBounds_toArray, List.set_cons_zero, List.set_cons_succ]
      refine wpAnyH_take (i := 10) (oi := ⟨some 36, _, _, _, _, _⟩) (v := ?vg10_11) rfl (by kernel_rfl) (by kernel_rfl) (by kernel_rfl) (fun _ _ _ h => h) (Or.inl ⟨by rfl, ?yg10_11⟩) hHeld ?rg10_11
      case yg10_11 =>
        intro wq hSw
        (try dsimp only at hSw)
        first | (go_simp; done) | (go_simp; with_reducible rfl)
      try simp only [Act.put, List.setIfInBounds_toArray, List.set_cons_zero, List.set_cons_succ]
      refine wpAnyH_take (i := 11) (oi := ⟨some 37, _, _, _, _, _⟩) (v := ?vg11_12) rfl (by kernel_rfl) (by kernel_rfl) (by kernel_rfl) (fun _ _ _ h => h) (Or.inl ⟨by rfl, ?yg11_12⟩) hHeld ?rg11_12
      case yg11_12 =>
        intro wq hSw
        (try dsimp only at hSw)
        first | (go_simp; done) | (go_simp; with_reducible rfl)
      try simp only [Act.put, List.setIfInBounds_toArray, List.set_cons_zero, List.set_cons_succ]
      refine wpAnyH_take (i := 12) (oi := ⟨some 38, _, _, _, _, _⟩) (v := ?vg12_13) rfl (by kernel_rfl) (by kernel_rfl) (by kernel_rfl) (fun _ _ _ h => h) (Or.inl ⟨by rfl, ?yg12_13⟩) hHeld ?rg12_13
      case yg12_13 =>
        intro wq hSw
        (try dsimp only at hSw)
        have q0 := hSw.cell_some M0.out Hn1.out
        first | (go_simp; done) | (go_simp; with_reducible rfl)
      try simp only [Act.put, List.setIfInBounds_toArray, List.set_cons_zero, List.set_cons_succ]
      refine wpAnyH_take (i := 13) (oi := ⟨some 39, _, _, _, _, _⟩) (v := ?vg13_14) rfl (by kernel_rfl) (by kernel_rfl) (by kernel_rfl) (fun _ _ _ h => h) (Or.inl ⟨by rfl, ?yg13_14⟩) hHeld ?rg13_14
      case yg13_14 =>
        intro wq hSw
        (try dsimp only at hSw)
        first | (go_simp; done) | (go_simp; with_reducible rfl)
      try simp only [Act.put, List.setIfInBounds_toArray, List.set_cons_zero, List.set_cons_succ]
      refine wpAnyH_take (i := 14) (oi := ⟨some 40, _, _, _, _, _⟩) (v := ?vg14_15) rfl (by kernel_rfl) (by kernel_rfl) (by kernel_rfl) (fun _ _ _ h => h) (Or.inl ⟨by rfl, ?yg14_15⟩) hHeld ?rg14_15
      case yg14_15 =>
        intro wq hSw
        (try dsimp only at hSw)
        have q0 := hSw.cell_some Q0.out Hn2.out
        first | (go_simp; done) | (go_simp; with_reducible rfl)
      try simp only [Act.put, List.setIfInBounds_toArray, List.set_cons_zero, List.set_cons_succ]
      refine wpAnyH_ready (rs := [7]) (by kernel_rfl) (by simp) ?_
      refine AllReadyH.cons (o := ⟨some 33, _, _, _, _, _⟩) rfl (fun K hK => ?_) (AllReadyH.nil)
      go_simp
      have hh := rrow5_mine k m x hxkm h1 h3 v_1
      rw [← E1.out] at hh
      refine hh.mono ?_; clear hh; rintro e v_16 ⟨Ac, nc, cc, rfl, hsc, hbN, hmc⟩
      have hnc : nc = k := by
        have := hsc.len
        rw [cells_length, rowL_length] at this
        omega
      rw [hnc] at hsc hmc
      rw [hnc]
      have hA1 : Oth A' Ac k := fun b1 o1 o2 hn e e' => by
        have h5 := mine_new hmc hn e
        have h6 := (G.out.own _ _ e').2
        have h7 := hHeld.size
        omega
      have Hsc := Lib.hid hsc
      have Ho1 := Lib.hid hA1
      have Gr := Lib.hid (Gd.out.later hbN)
      have Sr2 := Lib.hid (Srd.out.below hbN (Nat.le_refl _))
      have hfN : Fr (Blk A') v_1 v_16 := Fr.of_below hbN
      clear hnc nc hsc hA1 hbN hmc
      go_wp2_with fail
      have hHeld := hHeld.trans hfN
      have hz_17 := hfN.size
      refine hK.out _ _ hHeld (fun _ => ?_)
      clear hK K hfN
      try simp only [Act.put, List.setIfInBounds_toArray, List.set_cons_zero, List.set_cons_succ]
      refine wpAnyH_take (i := 15) (oi := ⟨some 41, _, _, _, _, _⟩) (v := ?vg15_18) rfl (by kernel_rfl) (by kernel_rfl) (by kernel_rfl) (fun _ _ _ h => h) (Or.inl ⟨by rfl, ?yg15_18⟩) hHeld ?rg15_18
      case yg15_18 =>
        intro wq hSw
        (try dsimp only at hSw)
        first | (go_simp; done) | (go_simp; with_reducible rfl)
      try simp only [Act.put, List.setIfInBounds_toArray, List.set_cons_zero, List.set_cons_succ]
      refine wpAnyH_ready (rs := [16]) (by kernel_rfl) (by simp) ?_
      refine AllReadyH.cons (o := ⟨some 42, _, _, _, _, _⟩) rfl (fun K hK => ?_) (AllReadyH.nil)
      go_simp
      have hbN : Below v_16.heap.size v_16 (v_16.alloc (.cells #[.slice Ac k cc, .slice Ar W cr] 83)) := (Below.refl _ _).alloc (Nat.le_refl _) _
      have hxN := heap_alloc_new v_16 (.cells #[.slice Ac k cc, .slice Ar W cr] 83)
      obtain ⟨gx, hgx⟩ : ∃ x, x = v_16.heap.size := ⟨_, rfl⟩
      obtain ⟨v_19, hw⟩ : ∃ x, x = v_16.alloc (.cells #[.slice Ac k cc, .slice Ar W cr] 83) := ⟨_, rfl⟩
      rw [← hw] at hbN hxN ⊢
      rw [← hgx] at hxN ⊢
      have Hsc2 := Lib.hid (Hsc.out.below hbN (Nat.le_refl _))
      have Gr2 := Lib.hid (Gr.out.later hbN)
      have Sr3 := Lib.hid (Sr2.out.below hbN (Nat.le_refl _))
      have HxN := Lib.hid hxN
      have hfN : Fr (Blk A') v_16 v_19 := Fr.of_below hbN
      clear hw hxN hgx hbN Hsc Gr Sr2
      have hHeld := hHeld.trans hfN
      have hz_20 := hfN.size
      refine hK.out _ _ hHeld (fun _ => ?_)
      clear hK K hfN
      try simp only [Act.put, List.setIfInBounds_toArray, List.set_cons_zero, List.set_cons_succ]
      refine wpAnyH_ready (rs := [17]) (by kernel_rfl) (by simp) ?_
      refine AllReadyH.cons (o := ⟨some 43, _, _, _, _, _⟩) rfl (fun K hK => ?_) (AllReadyH.nil)
      refine step_append_e (B := w2.heap.size) rfl (.tmp 26) (.tmp 42) rfl rfl Gr2.out (by have := hHeld.size; omega) Ac cc Ar cr Hsc2.out (by rw [E2.out]; exact Sr3.out) Ho1.out Ho2.out HxN.out rfl (by omega) ?_
      intro A4 c4 v_21 hG4 hfN
      have Gn := Lib.hid hG4
      clear hG4 Gr2 Hsc2 Sr3 HxN
      have hHeld := hHeld.trans hfN
      have hz_22 := hfN.size
      refine hK.out _ _ hHeld (fun _ => ?_)
      clear hK K hfN
      try simp only [Act.put, List.setIfInBounds_toArray, List.set_cons_zero, List.set_cons_succ]
      refine wpAnyH_take (i := 18) (oi := ⟨some 10, _, _, _, _, _⟩) (v := ?vg18_23) rfl (by kernel_rfl) (by kernel_rfl) (by kernel_rfl) (fun _ _ _ h => h) (Or.inl ⟨by rfl, ?yg18_23⟩) hHeld ?rg18_23
      case yg18_23 =>
        intro wq hSw
        (try dsimp only at hSw)
        first | (go_simp; done) | (go_simp; with_reducible rfl)
      try simp only [Act.put, List.setIfInBounds_toArray, List.set_cons_zero, List.set_cons_succ]
      refine wpAnyH_done (by kernel_rfl) ?_ _
      have HbF := Lib.hid (hHeld.below hszl (fun b ⟨o', e⟩ => (G.out.own _ _ e).1))
      clear hHeld
      obtain ⟨wf, hwf⟩ : ∃ x, x = v_21 := ⟨_, rfl⟩
      rw [← hwf] at HbF Gn ⊢
      clear hwf
      go_wp2_with fail
      go_roundw
      case rel => exact ⟨a + 1, A4, c4, by omega, by go_num, rfl, Gn.out, Hb.out.trans HbF.out⟩
      case measure => simp [intOf]; omega
    · obtain rfl : k = a := by omega
      have hki : ¬ ((k : Int) < (k : Int)) := by omega
      obtain ⟨vs, hown, hrs⟩ := G.out.ex
      have hh := solve_any k W h1 (by omega) hW1 A' c' (eqM k rs T) (solD k X rs T) vs wl hown.sl (fun a ha => by
        obtain ⟨B1, d1, B2, d2, e1, e2, e3, e4, _⟩ := hrs a ha
        exact ⟨B1, d1, B2, d2, e1, e2, e3, e4⟩) (inj_eq HX.out) (sol_of HX.out)
      clear hown hrs
      go_wp2_with fail
      refine hh.mono ?_; clear hh; rintro e w5 ⟨⟨g5, rfl, hG5⟩, hb5⟩
      have HG5 := Lib.hid hG5
      have Hb5 := Lib.hid (Hb2.out.trans ((Hb.out.trans (hb5.mono hszl)).mono hz2))
      clear hG5 hb5
      go_wp2_with fail
      go_ret2
      exact ⟨⟨g5, rfl, HG5.out⟩, Hb5.out⟩
end Go.Proofs.YtgoomiimlfdcmaaGreat

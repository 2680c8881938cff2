/-
  Where a drive lies in memory (layer 9): its box, its sectors, the writes that wait, the map of the last ones ('Rp9'); contracts of package drive's calls that only read. No condition but bounds.
-/
import Derived.Test.YtmlmlmlbdjhfhaaDrk
import Derived.Test.YtmlmlmlbdjhfhaaMpi
namespace Go.Proofs.Ytmlmlmlbdjhfhaa
open Go.RowKit Go.Proofs Go.Maps
set_option linter.unusedVariables false

/-- The number of the last write to a sector. -/
def lastI : List (Nat × List UInt8) → Nat → Option Nat
  | [], _ => none
  | p :: l, i => match lastI l i with
    | some j => some (j + 1)
    | none => if p.1 = i then some 0 else none
theorem lastI_snoc (l : List (Nat × List UInt8)) (p : Nat × List UInt8) (i : Nat) : lastI (l ++ [p]) i = if p.1 = i then some l.length else lastI l i := by
  induction l with
  | nil => rfl
  | cons q l ih =>
    show (match lastI (l ++ [p]) i with | some j => some (j + 1) | none => if q.1 = i then some 0 else none) = if p.1 = i then some (l.length + 1) else (match lastI l i with | some j => some (j + 1) | none => if q.1 = i then some 0 else none)
    rw [ih]
    by_cases he : p.1 = i
    · rw [if_pos he, if_pos he]
    · rw [if_neg he, if_neg he]
theorem lastI_some : ∀ {l : List (Nat × List UInt8)} {i j : Nat}, lastI l i = some j → ∃ b, l[j]? = some (i, b) ∧ Dv.lastW l i = some b
  | p :: l, i, j, h => by
    have h : (match lastI l i with | some j => some (j + 1) | none => if p.1 = i then some 0 else none) = some j := h
    cases hq : lastI l i with
    | some k =>
      rw [hq] at h
      injection h with h
      subst h
      obtain ⟨b, h1, h2⟩ := lastI_some hq
      refine ⟨b, by simpa using h1, ?_⟩
      show (match Dv.lastW l i with | some b => some b | none => if p.1 = i then some p.2 else none) = _
      rw [h2]
    | none =>
      rw [hq] at h
      have h : (if p.1 = i then some 0 else none) = some j := h
      by_cases he : p.1 = i
      · rw [if_pos he] at h
        injection h with h
        subst h
        refine ⟨p.2, by rw [← he]; rfl, ?_⟩
        show (match Dv.lastW l i with | some b => some b | none => if p.1 = i then some p.2 else none) = _
        rw [lastI_none hq, if_pos he]
      · rw [if_neg he] at h
        cases h
where
  lastI_none : ∀ {l : List (Nat × List UInt8)} {i : Nat}, lastI l i = none → Dv.lastW l i = none
  | [], _, _ => rfl
  | p :: l, i, h => by
    have h : (match lastI l i with | some j => some (j + 1) | none => if p.1 = i then some 0 else none) = none := h
    show (match Dv.lastW l i with | some b => some b | none => if p.1 = i then some p.2 else none) = none
    cases hq : lastI l i with
    | some k => rw [hq] at h; cases h
    | none =>
      rw [hq] at h
      rw [lastI_none hq]
      by_cases he : p.1 = i
      · have h : (if p.1 = i then some 0 else none) = (none : Option Nat) := h
        rw [if_pos he] at h; cases h
      · rw [if_neg he]
theorem lastI_none {l : List (Nat × List UInt8)} {i : Nat} (h : lastI l i = none) : Dv.lastW l i = none := lastI_some.lastI_none h

/-- The map of the last writes. -/
structure Lst (w : World) (M : Nat) (l : List (Nat × List UInt8)) : Prop where
  ex : ∃ D : DataW Unit, w.ownsMap Try.prog 3 (plainElem Try.prog 3) M l.length D ∧ IsMap D ∧ ∀ (i : Nat) (zd : DataW Unit), D.atKey (.int .i64 (i : Int)) zd = (match lastI l i with | some j => .lit (.int .i64 (j : Int)) | none => zd)
theorem Lst.lt {w : World} {M : Nat} {l : List (Nat × List UInt8)} (h : Lst w M l) : M < w.heap.size := by
  obtain ⟨D, h1, _⟩ := h.ex
  exact h1.lt
theorem Lst.fr {w w' : World} {M : Nat} {l : List (Nat × List UInt8)} {S : Nat → Prop} (h : Lst w M l) (hf : Fr S w w') (hb : ¬ S M) : Lst w' M l := by
  obtain ⟨D, h1, h2, h3⟩ := h.ex
  exact ⟨D, ownsMap_fr h1 hf hb, h2, h3⟩
theorem Lst.look {w : World} {M : Nat} {l : List (Nat × List UInt8)} (h : Lst w M l) (i : Nat) (hi : i < 9223372036854775808) :
    (Instr.lookup 60 (.map (some M)) (.int .i64 (i : Int)) true).run Try.prog w = .ok (match lastI l i with | some j => .tuple #[.int .i64 (j : Int), .bool true] | none => .tuple #[.int .i64 0, .bool false]) w := by
  obtain ⟨D, ⟨es, clock, hb, F, hs, rfl⟩, h2, h3⟩ := h.ex
  have hkey : keyOf Try.prog 3 (.int .i64 (i : Int)) = some (.int .i64 (i : Int)) := keyOf_int_mk Try.underlying3 (wf_of (by omega))
  rcases Maps.fit_look true keyedI Try.underlying60 (zeroI w) hb F hkey with ⟨hrun, _, hat⟩ | ⟨e0, y, _, _, hrun, hRv, hat, _⟩
  · have := (h3 i (.lit (.int .i64 0))).symm.trans (hat _)
    have h1 := (h3 i (.lit (.int .i64 1))).symm.trans (hat _)
    cases hq : lastI l i with
    | none => exact hrun
    | some j =>
      rw [hq] at this h1
      have a := lit_inj this
      have b := lit_inj h1
      omega
  · obtain ⟨a, ha, hy, _⟩ := plainElem_int_inv Try.underlying3 hRv
    have h0 := (h3 i (.lit (.int .i64 0))).symm.trans (hat _)
    have h1 := (h3 i (.lit (.int .i64 1))).symm.trans (hat _)
    rw [hy] at h0 h1
    cases hq : lastI l i with
    | none =>
      rw [hq] at h0 h1
      have a := lit_inj h0
      have b := lit_inj h1
      omega
    | some j =>
      rw [hq] at h0
      have := lit_inj h0
      subst this
      rw [ha] at hrun
      exact hrun
theorem Lst.step {D : DataW Unit} {l : List (Nat × List UInt8)} (h2 : IsMap D) (h3 : ∀ (i : Nat) (zd : DataW Unit), D.atKey (.int .i64 (i : Int)) zd = (match lastI l i with | some j => .lit (.int .i64 (j : Int)) | none => zd)) (p : Nat × List UInt8) :
    IsMap (D.put (.int .i64 (p.1 : Int)) (.lit (.int .i64 (l.length : Int)))) ∧ ∀ (i : Nat) (zd : DataW Unit), (D.put (.int .i64 (p.1 : Int)) (.lit (.int .i64 (l.length : Int)))).atKey (.int .i64 (i : Int)) zd = (match lastI (l ++ [p]) i with | some j => .lit (.int .i64 (j : Int)) | none => zd) := by
  refine ⟨h2.put _ _, fun i zd => ?_⟩
  rw [lastI_snoc]
  by_cases he : p.1 = i
  · rw [if_pos he, ← he, atKey_put_same (k := Lit.int .i64 _) h2 (by trivial)]
  · rw [if_neg he, atKey_put_other (by intro e; injection e with _ e; exact he (by omega)), h3]

/-- Where a drive lies. -/
structure Rq (w : World) (D : Nat) (x : Dv) (Bd cd : Nat) (Ac : Option Addr) (cc M : Nat) (ds : List (List UInt8 × Bool)) : Prop where
  box : w.heap[D]? = some (.cells #[.slice (some ⟨Bd, 0, none⟩) x.n cd, .slice Ac x.wait.length cc, .map (some M), .bool x.gone] 63 (0, 0))
  disk : Rw w Bd 71 65 x.n cd (ds.flatMap sec9)
  cch : (x.wait = [] ∧ Ac = none ∧ cc = 0) ∨ ∃ Bc, Ac = some ⟨Bc, 0, none⟩ ∧ Rw w Bc 68 65 x.wait.length cc (x.wait.flatMap wrc9)
  lst : Lst w M x.wait
  len : ds.length = x.n
  n1 : 1 ≤ x.n
  n2 : x.n ≤ 600
  ok : x.Ok
  has : x.gone = false → ∀ i, i < x.n → ds[i]? = some (x.st.getD i [], x.rot.getD i false)
/-- Its own blocks. -/
def Blk9 (D Bd M : Nat) (Ac : Option Addr) : Nat → Prop := fun b => b = D ∨ b = Bd ∨ b = M ∨ ∃ o, Ac = some ⟨b, o, none⟩
def Rp9 (w : World) (S : Nat → Prop) (D : Nat) (x : Dv) : Prop := ∃ Bd cd Ac cc M ds, Rq w D x Bd cd Ac cc M ds ∧ ∀ b, S b ↔ Blk9 D Bd M Ac b
section
variable {w w' : World} {D Bd cd cc M : Nat} {x : Dv} {Ac : Option Addr} {ds : List (List UInt8 × Bool)}
theorem Rq.c0 (h : Rq w D x Bd cd Ac cc M ds) : w.cell? ⟨D, 0, none⟩ = some (.slice (some ⟨Bd, 0, none⟩) x.n cd) := by rw [cell_of_row _ _ _ _ _ _ h.box]; rfl
theorem Rq.c1 (h : Rq w D x Bd cd Ac cc M ds) : w.cell? ⟨D, 1, none⟩ = some (.slice Ac x.wait.length cc) := by rw [cell_of_row _ _ _ _ _ _ h.box]; rfl
theorem Rq.c2 (h : Rq w D x Bd cd Ac cc M ds) : w.cell? ⟨D, 2, none⟩ = some (.map (some M)) := by rw [cell_of_row _ _ _ _ _ _ h.box]; rfl
theorem Rq.c3 (h : Rq w D x Bd cd Ac cc M ds) : w.cell? ⟨D, 3, none⟩ = some (.bool x.gone) := by rw [cell_of_row _ _ _ _ _ _ h.box]; rfl
theorem Rq.free (h : Rq w D x Bd cd Ac cc M ds) (j : Nat) : w.frozen? ⟨D, j, none⟩ = false := frozen_of_row _ _ _ _ _ h.box
theorem Rq.fr {T : Nat → Prop} (h : Rq w D x Bd cd Ac cc M ds) (hf : Fr T w w') (hT : ∀ b, Blk9 D Bd M Ac b → ¬ T b) : Rq w' D x Bd cd Ac cc M ds := by
  refine ⟨hf.row_some h.box (hT D (.inl rfl)), h.disk.fr hf (hT Bd (.inr (.inl rfl))), ?_, h.lst.fr hf (hT M (.inr (.inr (.inl rfl)))), h.len, h.n1, h.n2, h.ok, h.has⟩
  rcases h.cch with q | ⟨Bc, hA, hc⟩
  · exact .inl q
  · exact .inr ⟨Bc, hA, hc.fr hf (hT Bc (.inr (.inr (.inr ⟨0, hA⟩))))⟩
theorem Rq.later (h : Rq w D x Bd cd Ac cc M ds) (hb : Below w.heap.size w w') : Rq w' D x Bd cd Ac cc M ds := h.fr (Fr.of_below hb : Fr (fun _ => False) _ _) (fun _ _ h => h)
theorem Rq.lt (h : Rq w D x Bd cd Ac cc M ds) {b : Nat} (hb : Blk9 D Bd M Ac b) : b < w.heap.size := by
  rcases hb with rfl | rfl | rfl | ⟨o, ho⟩
  · exact block_lt h.box
  · exact h.disk.lt
  · exact h.lst.lt
  · rcases h.cch with ⟨_, hA, _⟩ | ⟨Bc, hA, hc⟩
    · rw [hA] at ho; cases ho
    · rw [hA] at ho
      injection ho with ho
      injection ho with ho _
      rw [← ho]
      exact hc.lt
theorem Rq.sect (h : Rq w D x Bd cd Ac cc M ds) (hg : x.gone = false) {i : Nat} (hi : i < x.n) : ds[i]? = some (x.st.getD i [], x.rot.getD i false) ∧ (x.st.getD i []).length = 64 := ⟨h.has hg i hi, (h.ok.live hg).2 i hi⟩
/-- The four are apart. -/
theorem Rq.ne1 (h : Rq w D x Bd cd Ac cc M ds) : D ≠ Bd := by
  rintro rfl
  obtain ⟨cur, h1, _⟩ := h.disk.ex
  rw [h.box] at h1
  injection h1 with h1
  injection h1 with _ h1
  exact absurd h1 (by decide)
theorem map_blk (h : Lst w M x.wait) : ∃ es clock, w.heap[M]? = some (.map es clock) := by
  obtain ⟨D, ⟨es, clock, hb, _⟩, _⟩ := h.ex
  exact ⟨es, clock, hb⟩
theorem Rq.ne2 (h : Rq w D x Bd cd Ac cc M ds) : D ≠ M := by
  rintro rfl
  obtain ⟨es, clock, h1⟩ := map_blk h.lst
  rw [h.box] at h1
  injection h1 with h1
  cases h1
theorem Rq.ne3 (h : Rq w D x Bd cd Ac cc M ds) : Bd ≠ M := by
  rintro rfl
  obtain ⟨es, clock, h1⟩ := map_blk h.lst
  obtain ⟨cur, h2, _⟩ := h.disk.ex
  rw [h2] at h1
  injection h1 with h1
  cases h1
theorem Rq.ne4 (h : Rq w D x Bd cd Ac cc M ds) {b o : Nat} (hA : Ac = some ⟨b, o, none⟩) : b ≠ D ∧ b ≠ Bd ∧ b ≠ M := by
  rcases h.cch with ⟨_, hA', _⟩ | ⟨Bc, hA', hc⟩
  · rw [hA'] at hA; cases hA
  · rw [hA'] at hA
    injection hA with hA
    injection hA with hA _
    subst hA
    obtain ⟨cur, h1, _⟩ := hc.ex
    refine ⟨?_, ?_, ?_⟩ <;> rintro rfl
    · rw [h.box] at h1
      injection h1 with h1
      injection h1 with _ h1
      exact absurd h1 (by decide)
    · obtain ⟨cur', h2, _⟩ := h.disk.ex
      rw [h2] at h1
      injection h1 with h1
      injection h1 with _ h1
      exact absurd h1 (by decide)
    · obtain ⟨es, clock, h2⟩ := map_blk h.lst
      rw [h2] at h1
      injection h1 with h1
      cases h1
end

section
variable {w : World} {D Bd cd cc M : Nat} {x : Dv} {Ac : Option Addr} {ds : List (List UInt8 × Bool)}
set_option maxRecDepth 20000
theorem dvmade_any (h : Rq w D x Bd cd Ac cc M ds) : Calls Try.prog 30 #[.pointer (some ⟨D, 0, none⟩)] w fun e w' => e = .returned (.bool true) ∧ w' = w := by
  have c0 := h.c0
  have hn : (0 : Int) < (x.n : Int) := by have := h.n1; omega
  obtain ⟨n, hxn⟩ : ∃ n, n = x.n := ⟨_, rfl⟩
  rw [← hxn] at c0 hn
  clear hxn
  have hd : decide (0 < n) = true := decide_eq_true (by omega)
  go_enter Try.func30, Try.ntmps30
  go_wp2_with fail
  go_ret
  exact ⟨rfl, rfl⟩
theorem dvsilent_any (h : Rq w D x Bd cd Ac cc M ds) : Calls Try.prog 27 #[.pointer (some ⟨D, 0, none⟩)] w fun e w' => e = .returned (.int .i64 (if x.gone = true then 90 else 0)) ∧ w' = w := by
  have hm := dvmade_any h
  have c3 := h.c3
  cases hg : x.gone
  · rw [hg] at c3
    go_enter Try.func27, Try.ntmps27
    go_wp2_with fail
    refine hm.mono ?_; rintro e w1 ⟨rfl, rfl⟩
    go_wp2_with fail
    go_ret
    exact ⟨rfl, rfl⟩
  · rw [hg] at c3
    go_enter Try.func27, Try.ntmps27
    go_wp2_with fail
    refine hm.mono ?_; rintro e w1 ⟨rfl, rfl⟩
    go_wp2_with fail
    go_ret
    exact ⟨rfl, rfl⟩
/-- Why a drive does nothing with a sector. -/
def Dv.refX (x : Dv) (z : Int) : Int := if x.gone = true then 90 else if x.has z then 0 else 2
theorem dvrefuses_any (z : Int) (h1 : -9223372036854775808 ≤ z) (h2 : z < 9223372036854775808) (h : Rq w D x Bd cd Ac cc M ds) : Calls Try.prog 26 #[.pointer (some ⟨D, 0, none⟩), .int .i64 z] w fun e w' => e = .returned (.int .i64 (x.refX z)) ∧ w' = w := by
  have hm := dvsilent_any h
  have c0 := h.c0
  unfold Dv.refX
  cases hg : x.gone
  · rw [hg, if_neg (by decide)] at hm
    rw [if_neg (by decide)]
    by_cases q1 : z < 0
    · rw [if_neg (fun hh => by unfold Dv.has at hh; omega)]
      obtain ⟨n, hxn⟩ : ∃ n, n = x.n := ⟨_, rfl⟩
      rw [← hxn] at c0
      clear hxn
      go_enter Try.func26, Try.ntmps26
      go_wp2_with fail
      refine hm.mono ?_; rintro e w1 ⟨rfl, rfl⟩
      go_wp2_with fail
      go_ret
      exact ⟨rfl, rfl⟩
    · by_cases q2 : (x.n : Int) ≤ z
      · rw [if_neg (fun hh => by unfold Dv.has at hh; omega)]
        obtain ⟨n, hxn⟩ : ∃ n, n = x.n := ⟨_, rfl⟩
        rw [← hxn] at c0 q2
        clear hxn
        go_enter Try.func26, Try.ntmps26
        go_wp2_with fail
        refine hm.mono ?_; rintro e w1 ⟨rfl, rfl⟩
        go_wp2_with fail
        go_ret
        exact ⟨rfl, rfl⟩
      · rw [if_pos (by unfold Dv.has; omega)]
        obtain ⟨n, hxn⟩ : ∃ n, n = x.n := ⟨_, rfl⟩
        rw [← hxn] at c0 q2
        clear hxn
        go_enter Try.func26, Try.ntmps26
        go_wp2_with fail
        refine hm.mono ?_; rintro e w1 ⟨rfl, rfl⟩
        go_wp2_with fail
        go_ret
        exact ⟨rfl, rfl⟩
  · rw [hg, if_pos rfl] at hm
    rw [if_pos rfl]
    go_enter Try.func26, Try.ntmps26
    go_wp2_with fail
    refine hm.mono ?_; rintro e w1 ⟨rfl, rfl⟩
    go_wp2_with fail
    go_ret
    exact ⟨rfl, rfl⟩
theorem dvsectors_any (h : Rq w D x Bd cd Ac cc M ds) : Calls Try.prog 25 #[.pointer (some ⟨D, 0, none⟩)] w fun e w' => e = .returned (.int .i64 (x.n : Int)) ∧ w' = w := by
  have hm := dvmade_any h
  have c0 := h.c0
  obtain ⟨n, hxn⟩ : ∃ n, n = x.n := ⟨_, rfl⟩
  rw [← hxn] at c0 ⊢
  clear hxn
  go_enter Try.func25, Try.ntmps25
  go_wp2_with fail
  refine hm.mono ?_; rintro e w1 ⟨rfl, rfl⟩
  go_wp2_with fail
  go_ret
  exact ⟨rfl, rfl⟩
theorem dvwaits_any (h : Rq w D x Bd cd Ac cc M ds) : Calls Try.prog 14 #[.pointer (some ⟨D, 0, none⟩)] w fun e w' => e = .returned (.int .i64 (x.wait.length : Int)) ∧ w' = w := by
  have hm := dvmade_any h
  have c1 := h.c1
  obtain ⟨n, hxn⟩ : ∃ n, n = x.wait.length := ⟨_, rfl⟩
  rw [← hxn] at c1 ⊢
  clear hxn
  go_enter Try.func14, Try.ntmps14
  go_wp2_with fail
  refine hm.mono ?_; rintro e w1 ⟨rfl, rfl⟩
  go_wp2_with fail
  go_ret
  exact ⟨rfl, rfl⟩
theorem dvdead_any (h : Rq w D x Bd cd Ac cc M ds) : Calls Try.prog 18 #[.pointer (some ⟨D, 0, none⟩)] w fun e w' => e = .returned (.bool x.gone) ∧ w' = w := by
  have hm := dvsilent_any h
  cases hg : x.gone
  · rw [hg, if_neg (by decide)] at hm
    go_enter Try.func18, Try.ntmps18
    go_wp2_with fail
    refine hm.mono ?_; rintro e w1 ⟨rfl, rfl⟩
    go_wp2_with fail
    go_ret
    exact ⟨rfl, rfl⟩
  · rw [hg, if_pos rfl] at hm
    go_enter Try.func18, Try.ntmps18
    go_wp2_with fail
    refine hm.mono ?_; rintro e w1 ⟨rfl, rfl⟩
    go_wp2_with fail
    go_ret
    exact ⟨rfl, rfl⟩
theorem dvrotten_any (z : Int) (h1 : -9223372036854775808 ≤ z) (h2 : z < 9223372036854775808) (h : Rq w D x Bd cd Ac cc M ds) : Calls Try.prog 16 #[.pointer (some ⟨D, 0, none⟩), .int .i64 z] w fun e w' => e = .returned (.bool (x.rottenB z)) ∧ w' = w := by
  have hm := dvrefuses_any z h1 h2 h
  have c0 := h.c0
  by_cases hx : x.gone = false ∧ x.has z
  · have e1 : x.refX z = 0 := by rw [Dv.refX, if_neg (by rw [hx.1]; decide), if_pos hx.2]
    have e2 : x.rottenB z = x.rot.getD z.toNat false := by rw [Dv.rottenB, decide_eq_true hx, Bool.true_and]
    have hz := hx.2
    unfold Dv.has at hz
    obtain ⟨i, rfl⟩ : ∃ i : Nat, z = (i : Int) := ⟨z.toNat, by omega⟩
    have hi : i < x.n := by omega
    have hc := h.disk.sec_bad (h.sect hx.1 hi).1
    rw [e2, Int.toNat_natCast]
    rw [e1] at hm
    have hlt : (i : Int) < (x.n : Int) := by omega
    obtain ⟨n, hxn⟩ : ∃ n, n = x.n := ⟨_, rfl⟩
    rw [← hxn] at c0 hlt
    obtain ⟨bb, hbb⟩ : ∃ bb, bb = x.rot.getD i false := ⟨_, rfl⟩
    rw [← hbb] at hc ⊢
    clear hxn e1 e2 hz hx hi hbb
    go_enter Try.func16, Try.ntmps16
    go_wp2_with fail
    refine hm.mono ?_; rintro e w1 ⟨rfl, rfl⟩
    go_wp2_with fail
    go_ret
    exact ⟨rfl, rfl⟩
  · have e1 : x.refX z ≠ 0 := by
      rw [Dv.refX]
      split
      · decide
      · rename_i hg
        split
        · rename_i hh; exact absurd ⟨by simpa using hg, hh⟩ hx
        · decide
    have e2 : x.rottenB z = false := by rw [Dv.rottenB, decide_eq_false hx, Bool.false_and]
    rw [e2]
    obtain ⟨r, hr⟩ : ∃ r, r = x.refX z := ⟨_, rfl⟩
    rw [← hr] at e1 hm
    clear hr e2
    go_enter Try.func16, Try.ntmps16
    go_wp2_with fail
    refine hm.mono ?_; rintro e w1 ⟨rfl, rfl⟩
    go_wp2_with fail
    go_ret
    exact ⟨rfl, rfl⟩
end
end Go.Proofs.Ytmlmlmlbdjhfhaa

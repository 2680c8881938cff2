/-
  DriveCopies over DrvK: it returns true, whatever its arguments. (Written by gen_dsl.py.)
-/
import Derived.Test.YtmlmlmlbdjhfhaaDsk
import Derived.Test.YtmlmlmlbdjhfhaaDsl
import Derived.Test.YtmlmlmlbdjhfhaaDrc
import Derived.Deep.DeepCutAuto
namespace Go.Proofs.Ytmlmlmlbdjhfhaa
open Go.RowKit Go.Proofs
set_option linter.unusedVariables false

theorem sizeA9 (a : Ac) : (Try.prog.info? 52).map (·.size) = some a.vals.length := by kernel_rfl
theorem step_loadA9 {ρ : Operand → Value} {o : Oper} {x : Operand} {w : World} {b off : Nat} {a : Ac} (ho : o.op = .load 52 x) (hx : ρ x = .pointer (some ⟨b, off, none⟩)) (h : w.rangeAt b off a.vals) : (execOp ρ o).run Try.prog w = .ok (.value (.agg a.vals.toArray)) w := by
  unfold execOp
  simp only [ho, hx, Instr.loadAt, Instr.sureAddr, Sem.run_bind, Sem.run_pure, Result.andThen_ok, run_loadVar_mid w b off 52 _ _ h Try.underlying52 rfl (sizeA9 a)]
/-- What acts make of a drive. -/
def Dv.acts (x : Dv) (l : List Ac) : Dv := l.foldl Dv.act x
theorem Dv.acts_snoc (x : Dv) (l : List Ac) (a : Ac) : x.acts (l ++ [a]) = (x.acts l).act a := by rw [Dv.acts, List.foldl_append]; rfl
theorem Dv.act_n (x : Dv) (a : Ac) : (x.act a).n = x.n := by
  have hw : ∀ z l, (x.write z l).n = x.n := fun z l => by
    unfold Dv.write
    split
    · rfl
    · split <;> rfl
  unfold Dv.act
  split
  · exact hw _ _
  · split
    · unfold Dv.flush1
      split
      · rfl
      · exact Dv.flush_n
    · split
      · exact Dv.crash_n _
      · split
        · simp [Dv.fail, Dv.n]
        · split
          · exact Dv.new_n _
          · split
            · unfold Dv.rot1
              split
              · simp [Dv.rotAt, Dv.n]
              · rfl
            · split
              · exact hw _ _
              · rfl
theorem acts_next {its : List Ac} {t : Nat} {a : Ac} (h : its[t]? = some a) : its.take (t + 1) = its.take t ++ [a] := by
  rw [List.take_add_one, h]
  rfl
section
variable {Rep : World → (Nat → Prop) → Nat → Dv → Prop} {w0 w w' : World} {S Sy T : Nat → Prop} {D X Y k : Nat} {x xd xr y : Dv}
/-- The document's drive alone, within a law's call. -/
structure Py (w0 w : World) (Sy : Nat → Prop) (Y k : Nat) (y : Dv) : Prop where
  rf : Rf w Sy Y k y
  lo : ∀ b, Sy b → w0.heap.size ≤ b
  bel : Below w0.heap.size w0 w
theorem Py.fr (h : Py w0 w Sy Y k y) (hf : Fr T w w') (hT : ∀ b, Sy b → ¬ T b) (hb : Below w0.heap.size w0 w') : Py w0 w' Sy Y k y := ⟨h.rf.fr hf hT, h.lo, hb⟩
/-- A new drive beside it. -/
theorem pairY (DK : DrvK Rep) {M : Nat} {S' : Nat → Prop} {D' : Nat} (h : Py w0 w Sy Y k y) (hd : Rep w' S' D' (Dv.new M)) (hb : Below w.heap.size w w') (hlo : ∀ b, S' b → w.heap.size ≤ b) : Pq Rep w0 w' (fun b => S' b ∨ Sy b) D' Y k (Dv.new M) y := by
  have hs := h.bel.size
  refine ⟨⟨S', Sy, hd, h.rf.fr (Fr.of_below hb : Fr (fun _ => False) _ _) (fun _ _ h => h), fun b hb1 hb2 => ?_, fun _ => Iff.rfl⟩, fun b hb' => ?_, h.bel.trans (hb.mono hs), Nat.zero_le _⟩
  · have := hlo b hb1
    have := h.rf.1 b hb2
    omega
  · rcases hb' with q | q
    · have := hlo b q; omega
    · exact h.lo b q
/-- The document's drive out of a pair. -/
theorem Pq.outY (h : Pq Rep w0 w S D Y k xd y) : ∃ Sy, Py w0 w Sy Y k y ∧ ∀ b, Sy b → S b := by
  obtain ⟨Sa, Sb, hd, hr, hdj, hS⟩ := h.ex
  exact ⟨Sb, ⟨hr, fun b hb => h.lo b ((hS b).2 (.inr hb)), h.bel⟩, fun b hb => (hS b).2 (.inr hb)⟩
set_option maxRecDepth 20000
set_option maxHeartbeats 12800000
theorem driveCopies_any (DK : DrvK Rep) (n : Int) (A : Option Addr) (ca : Nat) (its : List Ac) (A2 : Option Addr) (c2 : Nat) (its2 : List Ac) (w : World) (bn : -9223372036854775808 ≤ n ∧ n < 9223372036854775808) (hp : Acts w A its.length ca its) (hp2 : Acts w A2 its2.length c2 its2) :
    Calls Try.prog 6 #[.int .i64 n, .slice A its.length ca, .slice A2 its2.length c2] w (SaysTrue w) := by
  obtain ⟨nl, hnl⟩ : ∃ nl, nl = its.length := ⟨_, rfl⟩
  obtain ⟨nm, hnm⟩ : ∃ nm, nm = its2.length := ⟨_, rfl⟩
  have hfw1 := few9_any 0 A ca its w hp
  rw [← hnl] at hfw1 hp ⊢
  rw [← hnm] at hp2 ⊢
  have HP := Lib.hid hp
  have HQ := Lib.hid hp2
  have HN := Lib.hid hnl
  have HM := Lib.hid hnm
  clear hp hp2 hnl hnm
  by_cases g0 : n < 1
  · go_enter Try.func6, Try.ntmps6
    go_wp2_with fail
    refine (stores9_any DK _).mono ?_; rintro e wz ⟨rfl, hbz⟩
    go_wp2_with fail
    go_ret
    exact ⟨rfl, hbz⟩
  by_cases g1 : 20 < n
  · go_enter Try.func6, Try.ntmps6
    go_wp2_with fail
    refine (stores9_any DK _).mono ?_; rintro e wz ⟨rfl, hbz⟩
    go_wp2_with fail
    go_ret
    exact ⟨rfl, hbz⟩
  obtain ⟨M, rfl⟩ : ∃ M : Nat, n = (M : Int) := ⟨n.toNat, by omega⟩
  go_enter Try.func6, Try.ntmps6
  go_wp2_with fail
  refine hfw1.mono ?_; clear hfw1; rintro e w1 ⟨β1, rfl, hβ1, hb1⟩
  have B1 := Lib.hid hb1
  clear hb1
  cases β1
  · clear hβ1
    go_wp2_with fail
    refine (stores9_any DK _).mono ?_; rintro e w2 ⟨rfl, hb⟩
    have B2 := Lib.hid (B1.out.trans (hb.mono B1.out.size))
    clear hb
    go_wp2_with fail
    go_ret
    exact ⟨rfl, B2.out⟩
  have HL1 := Lib.hid (hβ1 rfl)
  clear hβ1
  go_wp2_with fail
  have hfw2 := few9_any 0 A2 c2 its2 w1 (by rw [← HM.out]; exact HQ.out.below B1.out)
  rw [← HM.out] at hfw2
  refine hfw2.mono ?_; clear hfw2; rintro e w2 ⟨β2, rfl, hβ2, hb⟩
  have B2 := Lib.hid (B1.out.trans (hb.mono B1.out.size))
  clear hb
  cases β2
  · clear hβ2
    go_wp2_with fail
    refine (stores9_any DK _).mono ?_; rintro e w3 ⟨rfl, hb⟩
    have B3 := Lib.hid (B2.out.trans (hb.mono B2.out.size))
    clear hb
    go_wp2_with fail
    go_ret
    exact ⟨rfl, B3.out⟩
  have HL2 := Lib.hid (hβ2 rfl)
  clear hβ2
  go_wp2_with fail
  refine (DK.new_yes M w2 (by omega) (by omega)).mono ?_; rintro e w3 ⟨D, Sd, rfl, hd, hb, hlo⟩
  have B3 := Lib.hid (B2.out.trans (hb.mono B2.out.size))
  have HD := Lib.hid hd
  have LD := Lib.hid hlo
  have Z3 := Lib.hid hb.size
  clear hd hb hlo
  go_wp2_with fail
  refine (rfnew_yes M w3 (by omega) (by omega)).mono ?_; rintro e w4 ⟨X, Sx, rfl, hx, hb, hlo⟩
  have P4 := Lib.hid (show Pq Rep w w4 (fun b => Sd b ∨ Sx b) D X 0 (Dv.new M) (Dv.new M) from by
    have hs2 := B2.out.size
    have hs3 := B3.out.size
    refine ⟨⟨Sd, Sx, DK.fr HD.out (Fr.of_below hb : Fr (fun _ => False) _ _) (fun _ _ h => h), hx, fun b q1 q2 => ?_, fun _ => Iff.rfl⟩, fun b q => ?_, B3.out.trans (hb.mono hs3), Nat.zero_le _⟩
    · have := DK.old HD.out b q1
      have := hlo b q2
      omega
    · rcases q with q | q
      · have := LD.out b q; omega
      · have := hlo b q; omega)
  clear hx hb hlo HD LD
  go_wp2_with fail
  refine (rfnew_yes M w4 (by omega) (by omega)).mono ?_; rintro e w5' ⟨Y, Sy0, rfl, hy, hb, hlo⟩
  have P5 := Lib.hid (P4.out.later DK hb)
  have Y5 := Lib.hid (show Py w w5' Sy0 Y 0 (Dv.new M) from ⟨hy, fun b q => by have := hlo b q; have := P4.out.bel.size; omega, P5.out.bel⟩)
  have J5 := Lib.hid (show ∀ b, (Sd b ∨ Sx b) → ¬ Sy0 b from fun b q1 q2 => by have := hlo b q2; have := P4.out.lt DK q1; omega)
  clear hy hb hlo P4
  go_wp2_with fail
  go_loopw [10] (fun i wr => ∃ (t : Nat) (S Sy : Nat → Prop), t ≤ nl ∧ i = .int .i64 (t : Int) ∧ Pq Rep w wr S D X (2 * t) ((Dv.new M).acts (its.take t)) ((Dv.new M).acts (its.take t)) ∧ Py w wr Sy Y (2 * t) ((Dv.new M).acts (its.take t)) ∧ ∀ b, S b → ¬ Sy b) (fun i _ => nl - (intOf i).toNat)
  case atStart => exact ⟨0, _, Sy0, by omega, rfl, P5.out, Y5.out, J5.out⟩
  case round =>
    clear P5 Y5 J5
    obtain ⟨t, S, Sy, ht, rfl, hP, hY, hJ⟩ := hrel
    obtain ⟨x, hx⟩ : ∃ x, x = (Dv.new M).acts (its.take t) := ⟨_, rfl⟩
    rw [← hx] at hP hY
    have Hx := Lib.hid hx
    have Pr := Lib.hid hP
    have Yr := Lib.hid hY
    have Jr := Lib.hid hJ
    clear hP hY hJ hx
    by_cases htl : t < nl
    · have hti : (t : Int) < (nl : Int) := by omega
      obtain ⟨a, ha⟩ : ∃ a, its[t]? = some a := ⟨_, List.getElem?_eq_getElem (by rw [← HN.out]; exact htl)⟩
      have Hnext := Lib.hid (acts_next ha)
      obtain ⟨ba, oa, rfl, hcell, hok⟩ := HP.out.cell t a ha
      have Hcell := Lib.hid (show w.rangeAt ba (oa + t * 7) a.vals from hcell)
      have HaOk := Lib.hid hok
      have hlt := World.block_lt_of_cell? w _ (hcell 0 _ rfl)
      have Hlt := Lib.hid (show ba < w.heap.size from hlt)
      have hrg : wr.rangeAt ba (oa + t * 7) a.vals := fun q v hv => (Pr.out.bel.cell (p := ⟨ba, oa + t * 7 + q, none⟩) Hlt.out).trans (Hcell.out q v hv)
      have hl1 := HL1.out
      clear ha hcell hok hlt
      go_wp2_with (refine at_dst (d := 48) ?_; refine wpList_load_mid (op := ⟨some 48, _, _, _, _, _⟩) rfl 52 (.tmp 47) rfl ba (oa + t * 7) rfl _ _ hrg Try.underlying52 rfl (sizeA9 a) ?_)
      clear hrg
      refine (act9_any DK Pr.out (by omega) a HaOk.out).mono ?_; rintro e w5 ⟨β, S5, rfl, hp, hn⟩
      have P5 := Lib.hid hp
      have Hy5 := Lib.hid (show Py w w5.drew Sy Y (2 * t) x from (Yr.out.fr hn.1 (fun b hb hb' => Jr.out b hb' hb) hp.bel).fr (T := fun _ => False) (Fr.refl _ _).drew (fun _ _ h => h) (Below.drew hp.bel))
      have J5 := Lib.hid (show ∀ b, S5 b → ¬ Sy b from fun b q1 q2 => (hn.2 b q1).elim (fun q => Jr.out b q q2) (fun q => by have := Yr.out.rf.1 b q2; omega))
      have HRg := Lib.hid (show w5.drew.rangeAt ba (oa + t * 7) a.vals from fun q v hv => (P5.out.bel.cell (p := ⟨ba, oa + t * 7 + q, none⟩) Hlt.out).trans (Hcell.out q v hv))
      have NBa := Lib.hid (show ¬ (Sy ba ∨ w5.heap.size ≤ ba) from by
        have := Hlt.out
        have := P5.out.bel.size
        rintro (q | q)
        · have := Yr.out.lo ba q; omega
        · omega)
      clear hp hn Pr Yr Jr
      go_wp2_with fail
      refine wp_region_held_drew (S := fun w' => Fr (fun b => Sy b ∨ w5.heap.size ≤ b) w5.drew w') (by kernel_rfl) (Fr.refl _ _) (fun hHeld => ?_)
      clear hHeld
      refine wpAnyH_take (i := 0) (oi := ⟨some 50, _, _, _, _, _⟩) (v := ?vb0) rfl (by kernel_rfl) (by kernel_rfl) (by kernel_rfl) (fun _ _ _ h => h) (Or.inl ⟨by rfl, ?yb0⟩) (Fr.refl _ _) ?rb0
      case yb0 =>
        intro wq hSw
        (try dsimp only at hSw)
        first | (go_simp; done) | (go_simp; with_reducible rfl)
      try simp only [Act.put, List.setIfInBounds_toArray, List.set_cons_zero, List.set_cons_succ]
      refine wpAnyH_take (i := 2) (oi := ⟨some 52, _, _, _, _, _⟩) (v := ?vb2) rfl (by kernel_rfl) (by kernel_rfl) (by kernel_rfl) (fun _ _ _ h => h) (Or.inl ⟨by rfl, ?yb2⟩) (Fr.refl _ _) ?rb2
      case yb2 =>
        intro wq hSw
        (try dsimp only at hSw)
        first | (go_simp; done) | (go_simp; with_reducible rfl)
      try simp only [Act.put, List.setIfInBounds_toArray, List.set_cons_zero, List.set_cons_succ]
      refine wpAnyH_take (i := 3) (oi := ⟨some 53, _, _, _, _, _⟩) (v := ?vb3) rfl (by kernel_rfl) (by kernel_rfl) (by kernel_rfl) (fun _ _ _ h => h) (Or.inl ⟨by rfl, ?yb3⟩) (Fr.refl _ _) ?rb3
      case yb3 =>
        intro wq hSw
        (try dsimp only at hSw)
        first | (go_simp; done) | (go_simp; with_reducible rfl)
      try simp only [Act.put, List.setIfInBounds_toArray, List.set_cons_zero, List.set_cons_succ]
      refine wpAnyH_take (i := 4) (oi := ⟨some 54, _, _, _, _, _⟩) (v := ?vb4) rfl (by kernel_rfl) (by kernel_rfl) (by kernel_rfl) (fun _ _ _ h => h) (Or.inl ⟨by rfl, ?yb4⟩) (Fr.refl _ _) ?rb4
      case yb4 =>
        intro wq hSw
        (try dsimp only at hSw)
        first | (go_simp; done) | (go_simp; with_reducible rfl)
      try simp only [Act.put, List.setIfInBounds_toArray, List.set_cons_zero, List.set_cons_succ]
      refine wpAnyH_take (i := 5) (oi := ⟨some 55, _, _, _, _, _⟩) (v := ?vb5) rfl (by kernel_rfl) (by kernel_rfl) (by kernel_rfl) (fun _ _ _ h => h) (Or.inl ⟨by rfl, ?yb5⟩) (Fr.refl _ _) ?rb5
      case yb5 =>
        intro wq hSw
        (try dsimp only at hSw)
        first | (go_simp; done) | (go_simp; with_reducible rfl)
      try simp only [Act.put, List.setIfInBounds_toArray, List.set_cons_zero, List.set_cons_succ]
      refine wpAnyH_take (i := 6) (oi := ⟨some 56, _, _, _, _, _⟩) (v := (.agg a.vals.toArray)) rfl (by kernel_rfl) (by kernel_rfl) (by kernel_rfl) (fun _ _ _ h => h) (Or.inl ⟨by rfl, ?yb6⟩) (Fr.refl _ _) ?rb6
      case yb6 =>
        intro wq hSw
        exact step_loadA9 (x := .tmp 55) (b := ba) (off := oa + t * 7) rfl rfl (fun q v hv => hSw.cell_some (HRg.out q v hv) NBa.out)
      try simp only [Act.put, List.setIfInBounds_toArray, List.set_cons_zero, List.set_cons_succ]
      refine wpAnyH_ready (rs := [1]) (by kernel_rfl) (by simp) ?_
      refine AllReadyH.cons (o := ⟨some 51, _, _, _, _, _⟩) rfl (fun K hK => ?_) AllReadyH.nil
      go_simp
      refine (DK.new_yes M w5.drew (by omega) (by omega)).mono ?_; rintro e w6 ⟨D', S', rfl, hd', hb, hlo⟩
      have hfr := Fr.of_below (S := fun b => Sy b ∨ w5.heap.size ≤ b) hb
      have P6 := Lib.hid (pairY DK Hy5.out hd' hb hlo)
      have Z6 := Lib.hid hb
      clear hd' hb
      go_wp2_with fail
      refine hK.out _ _ hfr (fun hHeld => ?_)
      clear hK K hHeld
      try simp only [Act.put, List.setIfInBounds_toArray, List.set_cons_zero, List.set_cons_succ]
      refine wpAnyH_re (S' := fun w' => Fr (fun b => Sy b ∨ w5.heap.size ≤ b) w6 w') (fun w' h => hfr.trans h) ?_
      clear hfr
      refine wpAnyH_ready (rs := [7]) (by kernel_rfl) (by simp) ?_
      refine AllReadyH.cons (o := ⟨some 57, _, _, _, _, _⟩) rfl (fun K hK => ?_) AllReadyH.nil
      go_simp
      refine (act9_any DK P6.out (by omega) a HaOk.out).mono ?_; rintro e w7 ⟨β, S7, rfl, hp, hn⟩
      have hfr := hn.1.mono (fun b hb => (show Sy b ∨ w5.heap.size ≤ b from hb.elim (fun q => .inr (hlo b q)) .inl))
      have P7 := Lib.hid hp
      have N7 := Lib.hid hn
      clear hp hn
      go_wp2_with fail
      refine hK.out _ _ hfr (fun hHeld => ?_)
      clear hK K hHeld
      try simp only [Act.put, List.setIfInBounds_toArray, List.set_cons_zero, List.set_cons_succ]
      refine wpAnyH_re (S' := fun w' => Fr (fun b => Sy b ∨ w5.heap.size ≤ b) w7 w') (fun w' h => hfr.trans h) ?_
      clear hfr
      refine wpAnyH_done (by kernel_rfl) ?_ _
      go_wp2_with fail
      have Zb : Below w5.heap.size w5 w6 := (Below.drew (Below.refl _ _)).trans Z6.out
      have N67 : Fr (fun b => Sy b ∨ w5.heap.size ≤ b) w5 w7 := (Fr.of_below Zb).trans (N7.out.1.mono (fun b hb => hb.elim (fun q => .inr (hlo b q)) .inl))
      obtain ⟨Sy7, hy7, hs7⟩ := P7.out.outY
      have Y7 := Lib.hid hy7
      have Pd7 := Lib.hid (P5.out.fr DK N67 (fun b hb q => q.elim (J5.out b hb) (fun q => by have := P5.out.lt DK hb; omega)) P7.out.bel)
      have J7 := Lib.hid (show ∀ b, S5 b → ¬ Sy7 b from fun b q1 q2 => by
        have hl5 := P5.out.lt DK q1
        have hz := Zb.size
        rcases N7.out.2 b (hs7 b q2) with (q | q) | q
        · have : w5.heap.size ≤ b := hlo b q
          omega
        · exact J5.out b q1 q
        · omega)
      clear hy7 hs7 N67 Zb hlo
      go_roundw
      case rel => exact ⟨t + 1, S5, Sy7, by omega, by go_num, by rw [Hnext.out, Dv.acts_snoc, ← Hx.out]; exact Pd7.out, by rw [Hnext.out, Dv.acts_snoc, ← Hx.out]; exact Y7.out, J7.out⟩
      case measure => simp [intOf]; omega
    · have hti : ¬ (t : Int) < (nl : Int) := by omega
      have hl1 := HL1.out
      obtain ⟨Sa, Sb, hda, hra, hdj, hSS⟩ := Pr.out.ex
      have HDa := Lib.hid hda
      go_wp2_with fail
      refine (DK.copy (Nat.le_trans Pr.out.wl (by omega)) HDa.out).mono ?_; rintro e w6 ⟨C, Sc, rfl, hc, hb, hlo⟩
      have P6 := Lib.hid (Pr.out.later DK hb)
      have Q6 := Lib.hid (show Pq Rep w w6 (fun b => Sc b ∨ Sy b) C Y (2 * t) x x from by
        refine ⟨⟨Sc, Sy, hc, Yr.out.rf.fr (Fr.of_below hb : Fr (fun _ => False) _ _) (fun _ _ h => h), fun b q1 q2 => ?_, fun _ => Iff.rfl⟩, fun b q => ?_, P6.out.bel, Pr.out.wl⟩
        · have := hlo b q1
          have := Yr.out.rf.1 b q2
          omega
        · rcases q with q | q
          · have := hlo b q; have := Pr.out.bel.size; omega
          · exact Yr.out.lo b q)
      have J6 := Lib.hid (show ∀ b, S b → ¬ (Sc b ∨ Sy b) from fun b q1 q2 => by
        rcases q2 with q | q
        · have := hlo b q; have := Pr.out.lt DK q1; omega
        · exact Jr.out b q1 q)
      clear hda hra hdj hSS hc hb hlo Yr Jr Pr HDa
      go_wp2_with fail
      go_loopw [12] (fun i wr => ∃ (q : Nat) (S : Nat → Prop), q ≤ nm ∧ i = .int .i64 (q : Int) ∧ Pq Rep w wr S D X (2 * t + 2 * q) (x.acts (its2.take q)) (x.acts (its2.take q)) ∧ Pq Rep w wr (fun b => Sc b ∨ Sy b) C Y (2 * t) x x ∧ ∀ b, S b → ¬ (Sc b ∨ Sy b)) (fun i _ => nm - (intOf i).toNat)
      case atStart => exact ⟨0, S, by omega, rfl, P6.out, Q6.out, J6.out⟩
      case round =>
        clear P6 Q6 J6
        obtain ⟨q, S2, hq, rfl, hP, hQ, hJ⟩ := hrel
        obtain ⟨y, hy⟩ : ∃ y, y = x.acts (its2.take q) := ⟨_, rfl⟩
        rw [← hy] at hP
        have Hy := Lib.hid hy
        have Pr := Lib.hid hP
        have Qr := Lib.hid hQ
        have Jr := Lib.hid hJ
        have hl2 := HL2.out
        clear hP hQ hJ hy
        by_cases hqm : q < nm
        · have hqi : (q : Int) < (nm : Int) := by omega
          obtain ⟨a, ha⟩ : ∃ a, its2[q]? = some a := ⟨_, List.getElem?_eq_getElem (by rw [← HM.out]; exact hqm)⟩
          have Hnext := Lib.hid (acts_next ha)
          obtain ⟨ba, oa, rfl, hcell, hok⟩ := HQ.out.cell q a ha
          have HaOk := Lib.hid hok
          have hlt := World.block_lt_of_cell? w _ (hcell 0 _ rfl)
          have hrg : wr.rangeAt ba (oa + q * 7) a.vals := fun r v hv => (Pr.out.bel.cell (p := ⟨ba, oa + q * 7 + r, none⟩) hlt).trans (hcell r v hv)
          clear ha hcell hok hlt
          go_wp2_with (refine at_dst (d := 71) ?_; refine wpList_load_mid (op := ⟨some 71, _, _, _, _, _⟩) rfl 52 (.tmp 70) rfl ba (oa + q * 7) rfl _ _ hrg Try.underlying52 rfl (sizeA9 a) ?_)
          clear hrg
          refine (act9_any DK Pr.out (by omega) a HaOk.out).mono ?_; rintro e w8 ⟨β, S8, rfl, hp, hn⟩
          have P8 := Lib.hid hp
          have Q8 := Lib.hid (Qr.out.fr DK hn.1 (fun b hb hb' => Jr.out b hb' hb) hp.bel)
          have J8 := Lib.hid (show ∀ b, S8 b → ¬ (Sc b ∨ Sy b) from fun b q1 q2 => (hn.2 b q1).elim (fun q => Jr.out b q q2) (fun q => by have := Qr.out.lt DK q2; omega))
          clear hp hn Pr Qr Jr
          go_wp2_with fail
          go_roundw
          case rel => exact ⟨q + 1, S8, by omega, by go_num, by rw [Hnext.out, Dv.acts_snoc, ← Hy.out]; exact P8.out, Q8.out, J8.out⟩
          case measure => simp [intOf]; omega
        · have hqi : ¬ (q : Int) < (nm : Int) := by omega
          go_wp2_with fail
          go_loopw [13] (fun i wz => ∃ j : Nat, j ≤ M ∧ i = .int .i64 (j : Int) ∧ Pq Rep w wz S2 D X (2 * t + 2 * q) y y ∧ Pq Rep w wz (fun b => Sc b ∨ Sy b) C Y (2 * t) x x) (fun i _ => M - (intOf i).toNat)
          case atStart => exact ⟨0, by omega, rfl, Pr.out, Qr.out⟩
          case round =>
            clear Pr Qr Jr
            obtain ⟨j, hj, rfl, hP, hQ⟩ := hrel
            have Pr := Lib.hid hP
            have Qr := Lib.hid hQ
            clear hP hQ
            by_cases hjM : j < M
            · have hji : (j : Int) < (M : Int) := by omega
              go_wp2_with fail
              refine (alike9_any DK Qr.out (by omega) (j : Int) (by omega) (by omega)).mono ?_; rintro e w8 ⟨rfl, hb⟩
              have P8 := Lib.hid (Pr.out.later DK hb)
              have Q8 := Lib.hid (Qr.out.later DK hb)
              clear hb Pr Qr
              go_wp2_with fail
              refine (alike9_any DK P8.out (by omega) (j : Int) (by omega) (by omega)).mono ?_; rintro e w9 ⟨rfl, hb⟩
              have P9 := Lib.hid (P8.out.later DK hb)
              have Q9 := Lib.hid (Q8.out.later DK hb)
              clear hb P8 Q8
              go_wp2_with fail
              go_roundw
              case rel => exact ⟨j + 1, by omega, by go_num, P9.out, Q9.out⟩
              case measure => simp [intOf]; omega
            · have hji : ¬ (j : Int) < (M : Int) := by omega
              obtain ⟨Sa, Sb, hc, ⟨_, AL, cL, ls, AW, cW, ws, hg⟩, hdj, hSS⟩ := (Qr.out.later DK (Below.drew (Below.refl _ _))).ex
              have HC := Lib.hid hc
              have Y2 := Lib.hid hg.c2
              have HLen := Lib.hid (show (x.wait.length : Int) = (ws.length : Int) from by rw [hg.rel.wait, List.length_map, List.length_map])
              have BQ := Lib.hid (Below.drew Qr.out.bel)
              clear hc hg hdj hSS
              go_wp2_with fail
              refine wp_region_held_drew (S := fun w' => Fr (fun _ => False) wr.drew w') (by kernel_rfl) (Fr.refl _ _) (fun hHeld => ?_)
              clear hHeld
              refine wpAnyH_take (i := 0) (oi := ⟨some 90, _, _, _, _, _⟩) (v := ?vc0) rfl (by kernel_rfl) (by kernel_rfl) (by kernel_rfl) (fun _ _ _ h => h) (Or.inl ⟨by rfl, ?yc0⟩) (Fr.refl _ _) ?rc0
              case yc0 =>
                intro wq hSw
                (try dsimp only at hSw)
                first | (go_simp; done) | (go_simp; with_reducible rfl)
              try simp only [Act.put, List.setIfInBounds_toArray, List.set_cons_zero, List.set_cons_succ]
              refine wpAnyH_take (i := 2) (oi := ⟨some 92, _, _, _, _, _⟩) (v := ?vc2) rfl (by kernel_rfl) (by kernel_rfl) (by kernel_rfl) (fun _ _ _ h => h) (Or.inl ⟨by rfl, ?yc2⟩) (Fr.refl _ _) ?rc2
              case yc2 =>
                intro wq hSw
                (try dsimp only at hSw)
                first | (go_simp; done) | (go_simp; with_reducible rfl)
              try simp only [Act.put, List.setIfInBounds_toArray, List.set_cons_zero, List.set_cons_succ]
              refine wpAnyH_take (i := 3) (oi := ⟨some 93, _, _, _, _, _⟩) (v := ?vc3) rfl (by kernel_rfl) (by kernel_rfl) (by kernel_rfl) (fun _ _ _ h => h) (Or.inl ⟨by rfl, ?yc3⟩) (Fr.refl _ _) ?rc3
              case yc3 =>
                intro wq hSw
                (try dsimp only at hSw)
                first | (go_simp; done) | (go_simp; with_reducible rfl)
              try simp only [Act.put, List.setIfInBounds_toArray, List.set_cons_zero, List.set_cons_succ]
              refine wpAnyH_take (i := 4) (oi := ⟨some 94, _, _, _, _, _⟩) (v := ?vc4) rfl (by kernel_rfl) (by kernel_rfl) (by kernel_rfl) (fun _ _ _ h => h) (Or.inl ⟨by rfl, ?yc4⟩) (Fr.refl _ _) ?rc4
              case yc4 =>
                intro wq hSw
                (try dsimp only at hSw)
                first | (go_simp; done) | (go_simp; with_reducible rfl)
              try simp only [Act.put, List.setIfInBounds_toArray, List.set_cons_zero, List.set_cons_succ]
              refine wpAnyH_take (i := 5) (oi := ⟨some 95, _, _, _, _, _⟩) (v := ?vc5) rfl (by kernel_rfl) (by kernel_rfl) (by kernel_rfl) (fun _ _ _ h => h) (Or.inl ⟨by rfl, ?yc5⟩) (Fr.refl _ _) ?rc5
              case yc5 =>
                intro wq hSw
                (try dsimp only at hSw)
                have hq := hSw.cell_some Y2.out (fun h => h)
                first | (go_simp; done) | (go_simp; with_reducible rfl)
              try simp only [Act.put, List.setIfInBounds_toArray, List.set_cons_zero, List.set_cons_succ]
              refine wpAnyH_take (i := 6) (oi := ⟨some 96, _, _, _, _, _⟩) (v := ?vc6) rfl (by kernel_rfl) (by kernel_rfl) (by kernel_rfl) (fun _ _ _ h => h) (Or.inl ⟨by rfl, ?yc6⟩) (Fr.refl _ _) ?rc6
              case yc6 =>
                intro wq hSw
                (try dsimp only at hSw)
                first | (go_simp; done) | (go_simp; with_reducible rfl)
              try simp only [Act.put, List.setIfInBounds_toArray, List.set_cons_zero, List.set_cons_succ]
              refine wpAnyH_ready (rs := [1]) (by kernel_rfl) (by simp) ?_
              refine AllReadyH.cons (o := ⟨some 91, _, _, _, _, _⟩) rfl (fun K hK => ?_) AllReadyH.nil
              go_simp
              refine (DK.waits HC.out).mono ?_; rintro e w8 ⟨rfl, hb⟩
              have hfr := Fr.of_below (S := fun _ => False) hb
              have B8 := Lib.hid (BQ.out.trans (hb.mono BQ.out.size))
              have Y2 := Lib.hid (hfr.cell_some Y2.out (fun h => h))
              clear hb
              go_wp2_with fail
              refine hK.out _ _ hfr (fun hHeld => ?_)
              clear hK K hHeld
              try simp only [Act.put, List.setIfInBounds_toArray, List.set_cons_zero, List.set_cons_succ]
              refine wpAnyH_re (S' := fun w' => Fr (fun _ => False) w8 w') (fun w' h => hfr.trans h) ?_
              clear hfr
              refine wpAnyH_take (i := 7) (oi := ⟨some 97, _, _, _, _, _⟩) (v := (.bool true)) rfl (by kernel_rfl) (by kernel_rfl) (by kernel_rfl) (fun _ _ _ h => h) (Or.inl ⟨by rfl, ?yc7⟩) (Fr.refl _ _) ?rc7
              case yc7 =>
                intro wq hSw
                exact step_eqi9 (x := .tmp 91) (y := .tmp 96) rfl rfl rfl (decide_eq_true HLen.out)
              try simp only [Act.put, List.setIfInBounds_toArray, List.set_cons_zero, List.set_cons_succ]
              refine wpAnyH_take (i := 8) (oi := ⟨some 98, _, _, _, _, _⟩) (v := ?vc8) rfl (by kernel_rfl) (by kernel_rfl) (by kernel_rfl) (fun _ _ _ h => h) (Or.inl ⟨by rfl, ?yc8⟩) (Fr.refl _ _) ?rc8
              case yc8 =>
                intro wq hSw
                (try dsimp only at hSw)
                first | (go_simp; done) | (go_simp; with_reducible rfl)
              try simp only [Act.put, List.setIfInBounds_toArray, List.set_cons_zero, List.set_cons_succ]
              refine wpAnyH_ready (rs := [9]) (by kernel_rfl) (by simp) ?_
              refine AllReadyH.cons (o := ⟨some 99, _, _, _, _, _⟩) rfl (fun K hK => ?_) AllReadyH.nil
              go_simp
              refine (stores9_any DK _).mono ?_; rintro e w9 ⟨rfl, hb⟩
              have hfr := Fr.of_below (S := fun _ => False) hb
              have B9 := Lib.hid (B8.out.trans (hb.mono B8.out.size))
              clear hb
              go_wp2_with fail
              refine hK.out _ _ hfr (fun hHeld => ?_)
              clear hK K hHeld
              try simp only [Act.put, List.setIfInBounds_toArray, List.set_cons_zero, List.set_cons_succ]
              refine wpAnyH_re (S' := fun w' => Fr (fun _ => False) w9 w') (fun w' h => hfr.trans h) ?_
              clear hfr
              refine wpAnyH_take (i := 10) (oi := ⟨some 100, _, _, _, _, _⟩) (v := ?vc10) rfl (by kernel_rfl) (by kernel_rfl) (by kernel_rfl) (fun _ _ _ h => h) (Or.inl ⟨by rfl, ?yc10⟩) (Fr.refl _ _) ?rc10
              case yc10 =>
                intro wq hSw
                (try dsimp only at hSw)
                first | (go_simp; done) | (go_simp; with_reducible rfl)
              try simp only [Act.put, List.setIfInBounds_toArray, List.set_cons_zero, List.set_cons_succ]
              refine wpAnyH_take (i := 11) (oi := ⟨some 6, _, _, _, _, _⟩) (v := ?vc11) rfl (by kernel_rfl) (by kernel_rfl) (by kernel_rfl) (fun _ _ _ h => h) (Or.inl ⟨by rfl, ?yc11⟩) (Fr.refl _ _) ?rc11
              case yc11 =>
                intro wq hSw
                (try dsimp only at hSw)
                first | (go_simp; done) | (go_simp; with_reducible rfl)
              try simp only [Act.put, List.setIfInBounds_toArray, List.set_cons_zero, List.set_cons_succ]
              refine wpAnyH_done (by kernel_rfl) ?_ _
              go_wp2_with fail
              go_ret
              exact ⟨rfl, B9.out⟩
end
end Go.Proofs.Ytmlmlmlbdjhfhaa

/-
  Contracts of package pool's exported functions, of a pool that New made and of one that isn't there or that nobody made. Condition: the table reads as the row lists it ('Tz'), where places are looked for.
-/
import Derived.Test.YtgkdpljlgdlekaaDoorEfe
import Derived.Deep.RegionHeld
namespace Go.Proofs.YtgkdpljlgdlekaaDoor
open Go.RowKit Go.Proofs
set_option linter.unusedVariables false

def own14 (P M B M2 B2 : Nat) : Nat → Prop := fun b => b = P ∨ b = M ∨ b = B ∨ b = M2 ∨ b = B2
/-- A pool that New made, at block P; S: its own blocks. -/
def Pl (w : World) (S : Nat → Prop) (P : Nat) (p : Ps) : Prop := ∃ M B M2 B2, S = own14 P M B M2 B2 ∧ PlAt w P M B M2 B2 p
section
variable {w w' : World} {S T : Nat → Prop} {P n : Nat} {p : Ps}
theorem Pl.fr (h : Pl w S P p) (hf : Fr T w w') (hT : ∀ b, S b → ¬ T b) : Pl w' S P p := by
  obtain ⟨M, B, M2, B2, rfl, hp⟩ := h
  exact ⟨M, B, M2, B2, rfl, hp.fr hf (hT _ (.inl rfl)) (hT _ (.inr (.inl rfl))) (hT _ (.inr (.inr (.inl rfl)))) (hT _ (.inr (.inr (.inr (.inl rfl))))) (hT _ (.inr (.inr (.inr (.inr rfl)))))⟩
theorem Pl.later (h : Pl w S P p) (hb : Below w.heap.size w w') : Pl w' S P p := h.fr (Fr.of_below hb : Fr (fun _ => False) w w') (fun _ _ h => h)
theorem Pl.lt (h : Pl w S P p) : ∀ b, S b → b < w.heap.size := by
  obtain ⟨M, B, M2, B2, rfl, hp⟩ := h
  rintro b (rfl | rfl | rfl | rfl | rfl)
  · exact hp.ltP
  · exact hp.busy.ltM
  · exact hp.busy.ltB
  · exact hp.limbo.ltM
  · exact hp.limbo.ltB
theorem Pl.ok (h : Pl w S P p) : p.Ok := by
  obtain ⟨M, B, M2, B2, rfl, hp⟩ := h
  exact hp.ok
theorem Pl.top (h : Pl w S P p) : S P := by
  obtain ⟨M, B, M2, B2, rfl, hp⟩ := h
  exact .inl rfl
theorem Bp.congr {M B : Nat} {f g : Nat → Bool} (h : Bp w M B n f) (e : ∀ i, i < n → f i = g i) : Bp w M B n g := by
  obtain ⟨q, c, ws, h1, h2, h3, h4⟩ := h.ex
  exact ⟨h.made, h.num, ⟨q, c, ws, h1, h2, ⟨h3.room, h3.lt, fun i hi => (h3.bit i hi).trans (e i hi)⟩, h4⟩, h.top, h.ne⟩
theorem PlAt.congr {M B M2 B2 : Nat} {f g : Nat → Bool} (h : PlAt w P M B M2 B2 p) (e1 : ∀ i, i < p.n → p.f i = f i) (e2 : ∀ i, i < p.n → p.g i = g i) : PlAt w P M B M2 B2 { p with f := f, g := g } :=
  ⟨h.row, h.busy.congr e1, h.limbo.congr e2, ⟨h.ok.n1, h.ok.n2, h.ok.a2, h.ok.t2, h.ok.e2, fun i hi hg => (e1 i hi).symm.trans (h.ok.sub i hi ((e2 i hi).trans hg))⟩, h.pb, h.pb2, h.mb2, h.bm2, h.bb2, h.pm, h.pm2⟩
theorem Fr.tw {P M B M2 B2 : Nat} (h : Fr (Tw B B2) w w') : Fr (own14 P M B M2 B2) w w' := h.mono fun b hb => by
  rcases hb with rfl | rfl
  · exact .inr (.inr (.inl rfl))
  · exact .inr (.inr (.inr (.inr rfl)))
end
/-- No pool, or one that nobody made. -/
def No14 (w : World) (v : Value) : Prop := v = .pointer none ∨ ∃ P, v = .pointer (some ⟨P, 0, none⟩) ∧ w.cell? ⟨P, 3, none⟩ = some (.pointer none)
theorem No14.keep {w w' : World} {v : Value} (h : No14 w v) (hb : Below w.heap.size w w') : No14 w' v := h.imp id fun ⟨P, h1, h2⟩ => ⟨P, h1, (hb.cell (World.block_lt_of_cell? w _ h2)).trans h2⟩
theorem No14.made {w : World} {v : Value} (h : No14 w v) : Calls Tryd.prog 24 #[v] w fun e w' => e = .returned (.bool false) ∧ w' = w := by
  rcases h with rfl | ⟨P, rfl, h⟩
  · exact pmade_nil w
  · exact pmade_zero P w h
set_option maxRecDepth 20000
set_option maxHeartbeats 1600000

/-! New. -/
def RetPl (p : Ps) (w : World) (e : Ending) (w' : World) : Prop := ∃ S P, e = .returned (.pointer (some ⟨P, 0, none⟩)) ∧ Pl w' S P p ∧ Below w.heap.size w w' ∧ ∀ b, S b → w.heap.size ≤ b
theorem newP_ok {a n : Nat} (h1 : 1 ≤ n) (h2 : n ≤ 400) (h3 : a + n ≤ 600) : (newP a n).Ok := ⟨h1, h2, h3, Nat.zero_le _, by show 0 < _; decide, fun _ _ h => by cases h⟩
theorem pnew_yes (a n : Nat) (h1 : 1 ≤ n) (h2 : n ≤ 400) (h3 : a + n ≤ 600) (w : World) :
    Calls Tryd.prog 5 #[.int .i64 (a : Int), .int .i64 (n : Int)] w (RetPl (newP a n) w) := by
  have c1 : ¬ (a : Int) < 0 := by omega
  have c2 : ¬ (n : Int) < 1 := by omega
  have c3 : ¬ (400 : Int) < (n : Int) := by omega
  have c4 : ¬ (600 : Int) - (n : Int) < (a : Int) := by omega
  have hn1 := mpnew_yes n (by omega) w
  have HO := Lib.hid (newP_ok h1 h2 h3)
  clear h1
  go_enter Tryd.func5, Tryd.ntmps5
  go_wp2_with fail
  refine hn1.mono ?_; clear hn1; rintro e w1 ⟨M, B, rfl, hm, hb, hM, hB⟩
  have Hm := Lib.hid hm
  have Hb := Lib.hid hb
  have HM := Lib.hid hM
  have HB := Lib.hid hB
  have HL := Lib.hid (And.intro hm.ltM hm.ltB)
  have hn2 := mpnew_yes n (by omega) w1
  clear hm hb hM hB
  go_wp2_with fail
  refine hn2.mono ?_; clear hn2; rintro e w2 ⟨M2, B2, rfl, hm, hb, hM, hB⟩
  have Hm1 := Lib.hid (Hm.out.later hb)
  have Hm2 := Lib.hid hm
  have Hb2 := Lib.hid hb
  have HM2 := Lib.hid hM
  have HB2 := Lib.hid hB
  clear hm hb hM hB Hm
  go_wp2_with fail
  go_ret
  have hx := heap_alloc_new w2 (.cells #[.int .u64 0, .int .i64 0, .int .i64 (a : Int), .pointer (some ⟨M, 0, none⟩), .pointer (some ⟨M2, 0, none⟩)] 50)
  have hbx : Below w2.heap.size w2 (w2.alloc (.cells #[.int .u64 0, .int .i64 0, .int .i64 (a : Int), .pointer (some ⟨M, 0, none⟩), .pointer (some ⟨M2, 0, none⟩)] 50)) := (Below.refl _ _).alloc (Nat.le_refl _) _
  have s1 := Hb.out.size
  have s2 := Hb2.out.size
  have l1 := Hm1.out.ltM
  have l2 := Hm1.out.ltB
  have l3 := Hm2.out.ltM
  have l4 := Hm2.out.ltB
  have k1 := HM.out
  have k2 := HB.out
  have k3 := HM2.out
  have k4 := HB2.out
  have i1 := HL.out
  refine ⟨own14 w2.heap.size M B M2 B2, w2.heap.size, rfl, ⟨M, B, M2, B2, rfl, hx, Hm1.out.later hbx, Hm2.out.later hbx, HO.out, ?_, ?_, ?_, ?_, ?_, ?_, ?_⟩, Hb.out.trans ((Hb2.out.trans (hbx.mono s2)).mono s1), ?_⟩
  all_goals first | omega | (rintro b (rfl | rfl | rfl | rfl | rfl) <;> omega)
theorem pnew_no (a n : Int) (ha : a < 9223372036854775808) (hn : -9223372036854775808 ≤ n) (h : ¬ (0 ≤ a ∧ 1 ≤ n ∧ n ≤ 400 ∧ a + n ≤ 600)) (w : World) :
    Calls Tryd.prog 5 #[.int .i64 a, .int .i64 n] w fun e w' => e = .returned (.pointer none) ∧ w' = w := by
  by_cases c1 : a < 0
  · clear h
    go_enter Tryd.func5, Tryd.ntmps5
    go_wp2_with fail
    go_ret
    exact ⟨rfl, rfl⟩
  by_cases c2 : n < 1
  · clear h
    go_enter Tryd.func5, Tryd.ntmps5
    go_wp2_with fail
    go_ret
    exact ⟨rfl, rfl⟩
  by_cases c3 : 400 < n
  · clear h
    go_enter Tryd.func5, Tryd.ntmps5
    go_wp2_with fail
    go_ret
    exact ⟨rfl, rfl⟩
  · have c4 : 600 - n < a := by omega
    clear h
    go_enter Tryd.func5, Tryd.ntmps5
    go_wp2_with fail
    go_ret
    exact ⟨rfl, rfl⟩

/-! Take. -/
theorem leastD_mem {n : Nat} {f : Nat → Bool} {y : Int} {x : Nat} (h : x ∈ leastD n f y) : x < n ∧ f x = false := by
  unfold leastD at h
  split at h
  · cases h
  · unfold leastL at h
    split at h
    · have := plc_mem.1 (List.mem_of_mem_take h)
      exact ⟨this.2.1, this.2.2⟩
    · cases h
/-- Places as integers. -/
def intsOf (l : List Nat) : List Int := l.map fun (n : Nat) => (n : Int)
theorem intsOf_length (l : List Nat) : (intsOf l).length = l.length := List.length_map _
theorem take_no (v : Value) (n : Int) (w : World) (h : No14 w v) :
    Calls Tryd.prog 8 #[v, .int .i64 n] w fun e w' => e = .returned (.tuple #[.slice none 0 0, .int .i64 1]) ∧ w' = w := by
  have hm := h.made
  clear h
  go_enter Tryd.func8, Tryd.ntmps8
  go_wp2_with fail
  refine hm.mono ?_; clear hm; rintro e w1 ⟨rfl, hw1⟩
  obtain rfl : w = w1 := hw1.symm
  go_wp2_with fail
  go_ret2
  exact ⟨rfl, rfl⟩
theorem take_neg (S : Nat → Prop) (P : Nat) (p : Ps) (n : Int) (hn : n < 0) (w : World) (h : Pl w S P p) :
    Calls Tryd.prog 8 #[.pointer (some ⟨P, 0, none⟩), .int .i64 n] w fun e w' => e = .returned (.tuple #[.slice none 0 0, .int .i64 2]) ∧ w' = w := by
  obtain ⟨M, B, M2, B2, -, hp⟩ := h
  have hm := pmade_yes P M w hp.c3
  clear hp
  go_enter Tryd.func8, Tryd.ntmps8
  go_wp2_with fail
  refine hm.mono ?_; clear hm; rintro e w1 ⟨rfl, hw1⟩
  obtain rfl : w = w1 := hw1.symm
  go_wp2_with fail
  go_ret2
  exact ⟨rfl, rfl⟩
/-- What Take answers of a number that isn't below 0. -/
def RetTake (S : Nat → Prop) (P : Nat) (p : Ps) (n : Int) (w : World) (e : Ending) (w' : World) : Prop :=
  (((leastD p.n p.f n).length : Int) < n ∧ e = .returned (.tuple #[.slice none 0 0, .int .i64 140]) ∧ Below w.heap.size w w') ∨
  (((leastD p.n p.f n).length : Int) = n ∧ ∃ b, e = .returned (.tuple #[.slice (some ⟨b, 0, none⟩) (leastD p.n p.f n).length (leastD p.n p.f n).length, .int .i64 0]) ∧ Rw w' b 3 1 (leastD p.n p.f n).length (leastD p.n p.f n).length (ncells (placesL p (leastD p.n p.f n))) ∧ w.heap.size ≤ b ∧ Pl w' S P (takeAll p (intsOf (placesL p (leastD p.n p.f n)))) ∧ Fr S w w')
theorem leastD_len {n : Nat} {f : Nat → Bool} {y : Int} (h : 0 ≤ y) : ((leastD n f y).length : Int) < y ∨ ((leastD n f y).length : Int) = y := by
  unfold leastD
  split
  · simp; omega
  · unfold leastL
    split
    · right
      rw [List.length_take]
      omega
    · left
      simp
      omega
theorem take_any (S : Nat → Prop) (P : Nat) (p : Ps) (n : Int) (hn : 0 ≤ n) (hn2 : n < 9223372036854775808) (w : World) (h : Pl w S P p) (hN : Tz w) :
    Calls Tryd.prog 8 #[.pointer (some ⟨P, 0, none⟩), .int .i64 n] w (RetTake S P p n w) := by
  obtain ⟨M, B, M2, B2, rfl, hp⟩ := h
  have hm := pmade_yes P M w hp.c3
  have hk := hp.ok
  have hle := least_z _ p.n p.f n hn2 w hp.busy.mp hN
  have hlt := leastD_len (n := p.n) (f := p.f) hn
  have hmem := fun x (hx : x ∈ leastD p.n p.f n) => leastD_mem hx
  unfold RetTake
  obtain ⟨l, hl⟩ : ∃ l, l = leastD p.n p.f n := ⟨_, rfl⟩
  rw [← hl] at hle hlt hmem ⊢
  have hlen : l.length ≤ 400 := by
    rw [hl]
    unfold leastD
    split
    · simp
    · unfold leastL
      split
      · rw [List.length_take]
        have := plc_len_le (n := p.n) (a := 0) (f := p.f) (t := false)
        have := hk.n2
        omega
      · simp
  have hc3 := hp.c3
  have Hp := Lib.hid hp
  have Hm := Lib.hid hmem
  clear hp hmem hl hk
  have hx : ¬ n < 0 := by omega
  obtain ⟨q, hq⟩ : ∃ q, q = l.length := ⟨_, rfl⟩
  have Hq := Lib.hid hq
  unfold RetNums at hle
  rw [← hq] at hle hlt hlen ⊢
  clear hq
  go_enter Tryd.func8, Tryd.ntmps8
  go_wp2_with fail
  refine hm.mono ?_; clear hm; rintro e w1 ⟨rfl, hw1⟩
  obtain rfl : w = w1 := hw1.symm
  go_wp2_with fail
  refine hle.mono ?_; clear hle; rintro e w1 ⟨A, c, rfl, ho, hb, -⟩
  have hp1 := Hp.out.later hb
  have hpl := places_any P p.a q c A l w1 ho.sl Hq.out.symm hp1.c2 (by omega) (by have := Hp.out.ok.a2; omega) (fun x hx => by have := Hm.out x hx; have := Hp.out.ok.n2; omega)
  unfold RetPlaces at hpl
  rw [← Hq.out] at hpl
  have Hp1 := Lib.hid hp1
  have Hb := Lib.hid hb
  clear ho hb hp1
  go_wp2_with fail
  refine hpl.mono ?_; clear hpl; rintro e w2 ⟨b, rfl, hr, hb2, hbb⟩
  have Hp2 := Lib.hid (Hp1.out.later hb2)
  have Hr := Lib.hid hr
  have Hb2 := Lib.hid (Hb.out.trans (hb2.mono Hb.out.size))
  have Hbb := Lib.hid (show w.heap.size ≤ b from by have := Hb.out.size; omega)
  clear hr hb2 hbb
  rcases hlt with hlt | hlt
  · go_wp2_with fail
    go_ret2
    exact .inl ⟨hlt, rfl, Hb2.out⟩
  · have hnl : ¬ (q : Int) < n := by omega
    have hbe := become_any takeS takeS_step 28 (enters_of Tryd.func28 (by kernel_rfl) rfl) #[.pointer (some ⟨P, 0, none⟩)] #[] P M B M2 B2 p (some ⟨b, 0, none⟩) q q (intsOf (placesL p l)) w2 Hp2.out (by rw [intsOf, ← ncells_icells]; exact Hr.out.sl) (by rw [intsOf_length, placesL, List.length_map, Hq.out]) (fun z hz => by
        obtain ⟨x, hx, rfl⟩ := List.mem_map.1 hz
        obtain ⟨y, hy, rfl⟩ := List.mem_map.1 hx
        have := Hm.out y hy
        have := Hp.out.ok.a2
        omega) (fun b' o' _ e => by
        injection e with e
        injection e with e _
        have := Hp.out.busy.ltB
        have := Hp.out.limbo.ltB
        have := Hbb.out
        rintro (h | h) <;> omega) (fun W q i hf hq => take1_any i W hq)
    have Hlt := Lib.hid hlt
    clear hlt
    go_wp2_with fail
    refine hbe.mono ?_; clear hbe; rintro e w3 ⟨rfl, hp3, hf3⟩
    rw [bec_take] at hp3
    have Hp3 := Lib.hid hp3
    have Hf3 := Lib.hid hf3
    have Hr3 := Lib.hid (Hr.out.fr hf3 (by
        have := Hp.out.busy.ltB
        have := Hp.out.limbo.ltB
        have := Hbb.out
        rintro (h | h) <;> omega))
    clear hp3 hf3
    go_wp2_with fail
    go_ret2
    exact .inr ⟨Hlt.out, b, rfl, Hr3.out, Hbb.out, ⟨M, B, M2, B2, rfl, Hp3.out⟩, (Fr.of_below Hb2.out).trans Hf3.out.tw⟩
end Go.Proofs.YtgkdpljlgdlekaaDoor

/-
  The contract of package scroll's Put. Conditions: bounds; both tables read as the row lists them. (Written by gen_eid.py.)
-/
import Derived.Test.YtokbhgbajdomnaaGreatDoorEic
import Derived.Defers
set_option linter.unusedVariables false
set_option maxRecDepth 20000
set_option maxHeartbeats 3200000
namespace Go.Proofs.YtokbhgbajdomnaaGreatDoor
open Go.RowKit Go.Proofs
theorem results_cell_two {P : Program} {fn : Func} {p u v : Tmp} {ty : TypeId} (h : fn.results = #[.cell p ty, .tmp u, .tmp v]) (tmps : Array Value) (w : World) (g : Nat) (t : TypeId) (cs : Array Value) (fr : Nat × Nat) (d : TypeDesc)
  (hp : tmps.getD p undef = .pointer (some ⟨g, 0, none⟩)) (hg : w.heap[g]? = some (.cells cs t fr))
  (hu : P.underlying ty = some d) (hd : (match d with | .struct _ | .array _ _ => true | _ => false) = true) (hi : (P.info? ty).map (·.size) = some cs.size) :
  (results fn tmps).run P w = .ok (.tuple #[.agg cs, tmps.getD u undef, tmps.getD v undef]) w := by
 have hp' : tmps[p]?.getD undef = .pointer (some ⟨g, 0, none⟩) := by simpa using hp
 simp [results, h, hp', asAddr, run_loadVar_row w g t ty cs fr d hg hu hd hi]
def calm16 (Q : Exit → Act → World → Prop) : Exit → Act → World → Prop
 | .panic _, _, _ => False
 | e, a, w => Q e a w
theorem calm16_le {Q : Exit → Act → World → Prop} : ∀ e a w, calm16 Q e a w → Q e a w := fun e a w h => by
 cases e <;> first | exact h | exact False.elim h
theorem wp_calm16 {P : Program} {c : Code} {Q : Exit → Act → World → Prop} {a : Act} {w : World} (h : c.wp P (calm16 Q) a w) : c.wp P Q a w := Code.wp_mono calm16_le h
theorem calm16_normal {Q : Exit → Act → World → Prop} {a : Act} {w : World} (h : Q .normal a w) : calm16 Q .normal a w := h
def Sc16 (w : World) (B : Nat) (a g c z : Int) : Prop := w.heap[B]? = some (.cells #[.int .i64 a, .int .u64 g, .int .i64 c, .int .i64 z] 38 (0, 0))
theorem size_sc16 (a g c z : Int) : (Tryz.prog.info? 38).map (·.size) = some (#[Value.int .i64 a, .int .u64 g, .int .i64 c, .int .i64 z] : Array Value).size := by
 show _ = some 4
 kernel_rfl
theorem one_sc16 {a g c z : Int} : (#[Value.int .i64 a, .int .u64 g, .int .i64 c, .int .i64 z] : Array Value).all (·.oneCell') = true := all_oneCell_toArray (cs := [.int .i64 a, .int .u64 g, .int .i64 c, .int .i64 z]) (fun v hv => by
 simp at hv
 rcases hv with rfl | rfl | rfl | rfl <;> rfl)
section
variable {w w' : World} {B : Nat} {a g c z : Int}
theorem Sc16.new : Sc16 (w.alloc (.cells #[.int .i64 a, .int .u64 g, .int .i64 c, .int .i64 z] 38)) w.heap.size a g c z := heap_alloc_new w _
theorem Sc16.later (h : Sc16 w B a g c z) (hb : Below w.heap.size w w') : Sc16 w' B a g c z := (hb.block _ (block_lt h)).trans h
theorem Sc16.fr {S : Nat → Prop} (h : Sc16 w B a g c z) (hf : Fr S w w') (hB : ¬ S B) : Sc16 w' B a g c z := hf.row_some h hB
theorem Sc16.c0 (h : Sc16 w B a g c z) : w.cell? ⟨B, 0, none⟩ = some (.int .i64 a) := by rw [cell_of_row _ _ _ _ _ _ h]; rfl
theorem Sc16.c1 (h : Sc16 w B a g c z) : w.cell? ⟨B, 1, none⟩ = some (.int .u64 g) := by rw [cell_of_row _ _ _ _ _ _ h]; rfl
theorem Sc16.c2 (h : Sc16 w B a g c z) : w.cell? ⟨B, 2, none⟩ = some (.int .i64 c) := by rw [cell_of_row _ _ _ _ _ _ h]; rfl
theorem Sc16.c3 (h : Sc16 w B a g c z) : w.cell? ⟨B, 3, none⟩ = some (.int .i64 z) := by rw [cell_of_row _ _ _ _ _ _ h]; rfl
theorem Sc16.free (h : Sc16 w B a g c z) (j : Nat) : w.frozen? ⟨B, j, none⟩ = false := frozen_of_row _ _ _ _ _ h
theorem Sc16.set0 (h : Sc16 w B a g c z) (x : Int) : Sc16 (w.setCell ⟨B, 0, none⟩ (.int .i64 x)) B x g c z := heap_setCell_same w B 0 _ _ (.int .i64 x) h
theorem Sc16.set1 (h : Sc16 w B a g c z) (x : Int) : Sc16 (w.setCell ⟨B, 1, none⟩ (.int .u64 x)) B a x c z := heap_setCell_same w B 1 _ _ (.int .u64 x) h
theorem Sc16.set2 (h : Sc16 w B a g c z) (x : Int) : Sc16 (w.setCell ⟨B, 2, none⟩ (.int .i64 x)) B a g x z := heap_setCell_same w B 2 _ _ (.int .i64 x) h
theorem Sc16.set3 (h : Sc16 w B a g c z) (x : Int) : Sc16 (w.setCell ⟨B, 3, none⟩ (.int .i64 x)) B a g c x := heap_setCell_same w B 3 _ _ (.int .i64 x) h
theorem step_sc16 {ρ : Operand → Value} {o : Oper} {x : Operand} (ho : o.op = .load 38 x) (hx : ρ x = .pointer (some ⟨B, 0, none⟩)) (h : Sc16 w B a g c z) : (execOp ρ o).run Tryz.prog w = .ok (.value (.agg #[.int .i64 a, .int .u64 g, .int .i64 c, .int .i64 z])) w := by
 unfold execOp
 simp only [ho, hx, Instr.loadAt, Instr.sureAddr, Sem.run_bind, Sem.run_pure, Result.andThen_ok, run_loadVar_row w B 38 38 _ (0, 0) _ h Tryz.underlying38 rfl (size_sc16 a g c z)]
def One16 (w : World) (B : Nat) (T : TypeId) (v : Value) : Prop := w.heap[B]? = some (.cells #[v] T (0, 0))
theorem One16.later {T : TypeId} {v : Value} (h : One16 w B T v) (hb : Below w.heap.size w w') : One16 w' B T v := (hb.block _ (block_lt h)).trans h
theorem One16.fr {S : Nat → Prop} {T : TypeId} {v : Value} (h : One16 w B T v) (hf : Fr S w w') (hB : ¬ S B) : One16 w' B T v := hf.row_some h hB
theorem One16.c0 {T : TypeId} {v : Value} (h : One16 w B T v) : w.cell? ⟨B, 0, none⟩ = some v := by rw [cell_of_row _ _ _ _ _ _ h]; rfl
theorem One16.free {T : TypeId} {v : Value} (h : One16 w B T v) : w.frozen? ⟨B, 0, none⟩ = false := frozen_of_row _ _ _ _ _ h
theorem One16.set {T : TypeId} {v : Value} (h : One16 w B T v) (u : Value) : One16 (w.setCell ⟨B, 0, none⟩ u) B T u := heap_setCell_same w B 0 _ _ u h
theorem Rw.neSc16 {bb n : Nat} {xs : List Value} (h : Rw w bb 3 1 n n xs) (h' : Sc16 w bb a g c z) : False := by
 obtain ⟨cur, h3, _⟩ := h.ex
 rw [show w.heap[bb]? = _ from h'] at h3
 injection h3 with h3
 injection h3 with _ h3 _
 exact absurd h3 (by decide)
structure Pb16 (w : World) (X Y P : Nat) : Prop where
 x : One16 w X 29 (.pointer (some ⟨P, 0, none⟩))
 y : Sc16 w Y 0 0 0 0
theorem Pb16.later {X Y P : Nat} (h : Pb16 w X Y P) (hb : Below w.heap.size w w') : Pb16 w' X Y P := ⟨h.x.later hb, h.y.later hb⟩
theorem Pb16.fr {S : Nat → Prop} {X Y P : Nat} (h : Pb16 w X Y P) (hf : Fr S w w') (hX : ¬ S X) (hY : ¬ S Y) : Pb16 w' X Y P := ⟨h.x.fr hf hX, h.y.fr hf hY⟩
theorem Pb16.new {P : Nat} : Pb16 ((w.alloc (.cells #[.pointer (some ⟨P, 0, none⟩)] 29)).alloc (.cells #[.int .i64 0, .int .u64 0, .int .i64 0, .int .i64 0] 38)) w.heap.size (w.heap.size + 1) P ∧ Below w.heap.size w ((w.alloc (.cells #[.pointer (some ⟨P, 0, none⟩)] 29)).alloc (.cells #[.int .i64 0, .int .u64 0, .int .i64 0, .int .i64 0] 38)) := by
 have e : (w.alloc (.cells #[.pointer (some ⟨P, 0, none⟩)] 29)).heap.size = w.heap.size + 1 := by simp
 have hb : Below w.heap.size w (w.alloc (.cells #[.pointer (some ⟨P, 0, none⟩)] 29)) := (Below.refl _ _).alloc (Nat.le_refl _) _
 refine ⟨⟨?_, ?_⟩, hb.alloc (by omega) _⟩
 ·have h1 : One16 (w.alloc (.cells #[.pointer (some ⟨P, 0, none⟩)] 29)) w.heap.size 29 (.pointer (some ⟨P, 0, none⟩)) := heap_alloc_new w _
  exact h1.later ((Below.refl _ _).alloc (Nat.le_refl _) _)
 ·have h2 := Sc16.new (w := w.alloc (.cells #[.pointer (some ⟨P, 0, none⟩)] 29)) (a := 0) (g := 0) (c := 0) (z := 0)
  rw [e] at h2
  exact h2
theorem vars16 {bb n : Nat} : One16 ((w.alloc (.cells #[.slice (some ⟨bb, 0, none⟩) n n] 39)).alloc (.cells #[.bool false] 4)) w.heap.size 39 (.slice (some ⟨bb, 0, none⟩) n n) ∧ One16 ((w.alloc (.cells #[.slice (some ⟨bb, 0, none⟩) n n] 39)).alloc (.cells #[.bool false] 4)) (w.heap.size + 1) 4 (.bool false) ∧ Below w.heap.size w ((w.alloc (.cells #[.slice (some ⟨bb, 0, none⟩) n n] 39)).alloc (.cells #[.bool false] 4)) := by
 have e : (w.alloc (.cells #[.slice (some ⟨bb, 0, none⟩) n n] 39)).heap.size = w.heap.size + 1 := by simp
 have hb : Below w.heap.size w (w.alloc (.cells #[.slice (some ⟨bb, 0, none⟩) n n] 39)) := (Below.refl _ _).alloc (Nat.le_refl _) _
 refine ⟨?_, ?_, hb.alloc (by omega) _⟩
 ·have h1 : One16 (w.alloc (.cells #[.slice (some ⟨bb, 0, none⟩) n n] 39)) w.heap.size 39 (.slice (some ⟨bb, 0, none⟩) n n) := heap_alloc_new w _
  exact h1.later ((Below.refl _ _).alloc (Nat.le_refl _) _)
 ·have h2 : One16 ((w.alloc (.cells #[.slice (some ⟨bb, 0, none⟩) n n] 39)).alloc (.cells #[.bool false] 4)) (w.alloc (.cells #[.slice (some ⟨bb, 0, none⟩) n n] 39)).heap.size 4 (.bool false) := heap_alloc_new _ _
  rw [e] at h2
  exact h2
end
theorem put1_16 (a b c : Nat) (u : FrameMode) (w : World) (h : One16 w a 4 (.bool true)) :
  CallsD Tryz.prog 46 #[.pointer (some ⟨a, 0, none⟩), .pointer (some ⟨b, 0, none⟩), .pointer (some ⟨c, 0, none⟩)] u w fun e u' w' => u' = u ∧ (e = .returned (.tuple #[]) ∧ w' = w) := by
 have hc := h.c0
 have hnot : ∀ (x : Bool) (w : World), (Op.unary .not (.bool x)).run Tryz.prog w = .ok (.bool (!x)) w := fun _ _ => rfl
 go_enter_d Tryz.func46, Tryz.ntmps46
 go_wp2_with fail
 go_end0
 exact ⟨rfl, rfl⟩
section
variable {Rep : World → (Nat → Prop) → Nat → Dv → Prop} {Good : Nat → Nat → (Nat → Bool) → Prop} {w0 w w' : World} {S U : Nat → Prop} {A C k m F T N P : Nat} {xs : List Dv} {p : Ps}
def RetPut16 (Rep : World → (Nat → Prop) → Nat → Dv → Prop) (w0 : World) (S : Nat → Prop) (A C k m F T N : Nat) (xs : List Dv) (U : Nat → Prop) (P : Nat) (p : Ps) (b : List UInt8) (n : Nat) (l : List Nat) (w : World) (e : Ending) (w' : World) : Prop :=
 ∃ bb S', e = .returned (.tuple #[.agg #[.int .i64 ((placesL p l).getD 0 0 : Nat), .int .u64 (genP p : Nat), .int .i64 (n : Int), .int .i64 (b.length : Int)], .slice (some ⟨bb, 0, none⟩) n n, .int .i64 0]) ∧ Rw w' bb 3 1 n n (ncells (placesL p l)) ∧ w.heap.size ≤ bb ∧ ¬ S' bb ∧ Lc15 Rep w0 w' S' A C k m F T N (putT k (k + m) 4 (placesL p l) (genP p) (leafL k (placesL p l) (genP p) b) xs n) U P (takenP p l n) ∧ Fr (fun x => S x ∨ U x) w w' ∧ ∀ x, S' x → S x ∨ w.heap.size ≤ x
theorem put16_yes (DK : DrvK Rep) (SV : StrV Rep Good) (h : Lc15 Rep w0 w S A C k m F T N xs U P p) (hT : Tz w0) (r : Nat) (hr : 44 * k = r + 10) (b : List UInt8) (A2 : Option Addr) (q c2 n c : Nat) (l : List Nat) (hq : b.length = q) (hZ : q ≤ 1000000) (hs : Sl w 1 A2 q c2 (cells b)) (hA : ∀ bb o, 0 < q → A2 = some ⟨bb, o, none⟩ → ¬ S bb ∧ ¬ U bb)
  (hn : countS r q = n) (hn4 : n ≤ 400) (hl : leastD p.n p.f (n : Int) = l) (hlen : Lt12 p.n n p.f l) (ht : p.t + n ≤ 1048576) (hN : N ≤ 65536) (hpN : p.a + p.n ≤ N) (hB : Bare xs k (k + m) N ((placesL p l).getD (n - 1) 0)) (hw : Wl c xs) (hc : c + n ≤ 1000) :
  Calls Tryz.prog 14 #[.pointer (some ⟨A, 0, none⟩), .pointer (some ⟨C, 0, none⟩), .pointer (some ⟨P, 0, none⟩), .slice A2 q c2] w (RetPut16 Rep w0 S A C k m F T N xs U P p b n l w) := by
 have hk := h.lc.ac.c.k1
 have hk255 := h.lc.ac.c.n255
 have hok := h.pl.ok
 have hn1 : 0 < n := by rw [← hn]; exact countS_pos
 have hv : VOk k N (placesL p l) (genP p) := vok15 hlen hk (by omega) hN hpN (by have := hok.e2; have := hok.t2; unfold genP; omega)
 have hpl : (placesL p l).length = n := by rw [placesL, List.length_map, hlen.len]
 have H := qH h
 have HT := qH hT
 have HS := qH hs
 have HA := qH hA
 have HN := qH hn
 have HR := qH hr
 have HL := qH hl
 have HE := qH hlen.len
 have HV := qH hv
 have HPL := qH hpl
 have HW := qH hw
 have HQ := qH hq
 have HBR := qH hB
 have HCT := qH (show cntZ r (q : Int) = n by rw [cntZ_nat]; exact hn)
 have hz : ¬ (400 : Int) < (n : Int) := by omega
 unfold RetPut16
 rw [hq]
 obtain ⟨ps, hps⟩ : ∃ ps, ps = placesL p l := ⟨_, rfl⟩
 rw [← hps] at HV HPL HBR ⊢
 obtain ⟨g, hg⟩ : ∃ g, g = genP p := ⟨_, rfl⟩
 rw [← hg] at HV ⊢
 obtain ⟨p0, hp0⟩ : ∃ p0, p0 = ps.getD 0 0 := ⟨_, rfl⟩
 rw [← hp0]
 have HP0 := qH hp0
 have HPS := qH hps
 have HG := qH hg
 have HTN := qH ht
 have hmf : ∀ (fn : Fn) (first cap : Array Value) (w : World), (Instr.makeFunc fn first cap).run Tryz.prog w = .ok (.func fn first cap) w := fun _ _ _ _ => rfl
 clear h hT hs hA hn hr hl hlen hv hpl hw hok hps hg hq hB hp0 ht
 go_enter_defers Tryz.func14, Tryz.ntmps14
 go_wp2_with fail
 obtain ⟨hxa, hba⟩ := Pb16.new (w := w) (P := P)
 obtain ⟨wa, hwa⟩ : ∃ x, x = ((w.alloc (.cells #[.pointer (some ⟨P, 0, none⟩)] 29)).alloc (.cells #[.int .i64 0, .int .u64 0, .int .i64 0, .int .i64 0] 38)) := ⟨_, rfl⟩
 rw [← hwa] at hxa hba ⊢
 clear hwa
 obtain ⟨Y, hY⟩ : ∃ Y, Y = w.heap.size + 1 := ⟨_, rfl⟩
 rw [← hY] at hxa ⊢
 obtain ⟨X, hX⟩ : ∃ X, X = w.heap.size := ⟨_, rfl⟩
 rw [← hX] at hxa ⊢
 have HX0 := qH (show w.heap.size ≤ X ∧ w.heap.size ≤ Y from by omega)
 have NX := qH (show ¬ U X ∧ ¬ U Y from ⟨fun q => by have := H.out.pl.lt _ q; omega, fun q => by have := H.out.pl.lt _ q; omega⟩)
 have La := qH (H.out.later DK hba)
 have Ba := qH hba
 have Xa := qH hxa
 have Sa := qH (HS.out.below hba (Nat.le_refl _))
 clear hba hxa hX hY
 have hg0 := gens_any U P p 0 wa La.out.pl
 unfold RetGens14 at hg0
 refine hg0.mono ?_; clear hg0; rintro e w1 (⟨h2, _⟩ | ⟨_, h2, _⟩ | ⟨_, _, rfl, hp, hf⟩)
 ·omega
 ·have := H.out.pl.ok.t2
  omega
 have L1 := qH (La.out.turn DK (show Pl w1 U P p from hp) hf)
 have X1 := qH (Xa.out.fr hf NX.out.1 NX.out.2)
 have S1 := qH (Sa.out.fr hf (fun bb o h0 hA => (HA.out bb o h0 hA).2))
 have F1 := qH ((Fr.of_below (S := U) Ba.out).trans hf)
 clear hp hf La Xa Sa
 have ht1 := there16_yes L1.out.lc.ac
 go_wp2_with fail
 refine ht1.mono ?_; clear ht1; rintro e w2 ⟨rfl, hb⟩
 have L2 := qH (L1.out.later DK hb)
 have X2 := qH (X1.out.later hb)
 have S2 := qH (S1.out.below hb (Nat.le_refl _))
 have F2 := qH (F1.out.trans (Fr.of_below hb))
 clear hb L1 X1 F1 S1
 have hct := count16 L2.out.lc.ac.c HR.out (q : Int) (by omega) (by omega)
 rw [HCT.out] at hct
 go_wp2_with fail
 refine hct.mono ?_; clear hct; rintro e w3 ⟨rfl, hb⟩
 have L3 := qH (L2.out.later DK hb)
 have X3 := qH (X2.out.later hb)
 have S3 := qH (S2.out.below hb (Nat.le_refl _))
 have F3 := qH (F2.out.trans (Fr.of_below hb))
 clear hb L2 X2 F2 S2
 have c0 := X3.out.x.c0
 go_wp2_with fail
 have hta := take_any U P p (n : Int) (by omega) (by omega) w3 L3.out.pl (L3.out.tz HT.out)
 unfold RetTake at hta
 rw [HL.out, HE.out, ← HPS.out] at hta
 refine hta.mono ?_; clear hta c0; rintro e w4 (⟨h1, _⟩ | ⟨_, bb, rfl, hrb, hbb, hp, hf⟩)
 ·omega
 have X4 := qH (X3.out.fr hf NX.out.1 NX.out.2)
 have S4 := qH (S3.out.fr hf (fun bb o h0 hA => (HA.out bb o h0 hA).2))
 have F4 := qH (F3.out.trans hf)
 have HBB := qH (show w.heap.size ≤ bb from by have := F3.out.size; omega)
 have NB := qH (show ¬ U bb from fun q => by have := H.out.pl.lt _ q; have := HBB.out; omega)
 have R4 := qH hrb
 have L4 := qH (L3.out.turn DK hp hf)
 clear hrb hbb hp hf X3 S3 F3 L3
 obtain ⟨hy5, hz5, hb⟩ := vars16 (w := w4) (bb := bb) (n := n)
 have hx5 := X4.out.later hb
 have c0 := hx5.x.c0
 have HY5 := qH hy5
 have HZ5 := qH hz5
 have HB5 := qH hb
 have HX5 := qH hx5
 clear hy5 hz5 hb hx5
 go_wp2_with fail
 clear c0
 obtain ⟨w5, hw5⟩ : ∃ x, x = (w4.alloc (.cells #[.slice (some ⟨bb, 0, none⟩) n n] 39)).alloc (.cells #[.bool false] 4) := ⟨_, rfl⟩
 rw [← hw5] at HY5 HZ5 HB5 HX5 ⊢
 clear hw5
 obtain ⟨W, hW⟩ : ∃ W, W = w4.heap.size + 1 := ⟨_, rfl⟩
 rw [← hW] at HZ5 ⊢
 obtain ⟨V, hV⟩ : ∃ V, V = w4.heap.size := ⟨_, rfl⟩
 rw [← hV] at HY5 ⊢
 have HY0 := qH (show w.heap.size ≤ V ∧ w.heap.size ≤ W ∧ V ≠ W from by have := F4.out.size; omega)
 have NY := qH (show ¬ U V ∧ ¬ U W from ⟨fun q => by have := H.out.pl.lt _ q; have := HY0.out; omega, fun q => by have := H.out.pl.lt _ q; have := HY0.out; omega⟩)
 have HVX := qH (show V ≠ Y ∧ W ≠ Y ∧ X ≠ W ∧ bb ≠ W ∧ bb ≠ Y from by have := block_lt X4.out.y; have := block_lt X4.out.x; have := R4.out.lt; exact ⟨by omega, by omega, by omega, by omega, fun e => R4.out.neSc16 (e ▸ X4.out.y)⟩)
 have X5 := HX5
 have Y5 := HY5
 have Z5 := HZ5
 have S5 := qH (S4.out.below HB5.out (Nat.le_refl _))
 have R5 := qH (R4.out.later HB5.out)
 have F5 := qH (F4.out.trans (Fr.of_below HB5.out))
 have L5 := qH (L4.out.later DK HB5.out)
 clear hV hW HX5 HY5 HZ5 HB5 X4 S4 R4 F4 L4
 have hge := gens_any U P _ (n : Int) w5 L5.out.pl
 unfold RetGens14 at hge
 refine hge.mono ?_; clear hge; rintro e w6 (⟨h2, _⟩ | ⟨_, h2, _⟩ | ⟨_, _, rfl, hp, hf⟩)
 ·omega
 ·have h2 : (1048576 : Int) - (p.t : Int) < (n : Int) := h2
  have := HTN.out
  omega
 have X6 := qH (X5.out.fr hf NX.out.1 NX.out.2)
 have Y6 := qH (Y5.out.fr hf NY.out.1)
 have Z6 := qH (Z5.out.fr hf NY.out.2)
 have S6 := qH (S5.out.fr hf (fun bb o h0 hA => (HA.out bb o h0 hA).2))
 have R6 := qH (R5.out.fr hf NB.out)
 have F6 := qH (F5.out.trans hf)
 have L6 := qH (show Lc15 Rep w0 w6 S A C k m F T N xs U P (takenP p l n) from L5.out.turn DK (by rw [HPS.out] at hp; exact hp) hf)
 have HG6 := qH (show (takeAll p (intsOf ps)).e * 1048576 + (takeAll p (intsOf ps)).t = g from HG.out.symm)
 rw [HG6.out]
 clear hp hf X5 Y5 Z5 S5 R5 F5 L5 HG6
 have c0 := Y6.out.c0
 go_wp2_with fail
 clear c0
 have hwr := write16_yes DK SV L6.out r HR.out b A2 q c2 n c n g ps (some ⟨bb, 0, none⟩) HQ.out hZ S6.out (fun bb o h0 hA => (HA.out bb o h0 hA).1) HN.out hn4 HPL.out (by rw [← ncells_icells16]; exact R6.out.sl) (fun b o h0 e => by
  injection e with e
  injection e with e _
  subst e
  exact fun q => by have := H.out.lc.ac.a.old q; have := HBB.out; omega) HV.out HBR.out HW.out hc
 unfold RetWrite16 at hwr
 refine hwr.mono ?_; clear hwr; rintro e w7 ⟨S', rfl, hL, hX⟩
 have NS := qH (show ∀ x, w.heap.size ≤ x → ¬ S x from fun x hx hs => by have := H.out.lc.ac.a.old hs; omega)
 have X7 := qH (X6.out.fr hX.1 (NS.out _ HX0.out.1) (NS.out _ HX0.out.2))
 have Y7 := qH (Y6.out.fr hX.1 (NS.out _ HY0.out.1))
 have Z7 := qH (Z6.out.fr hX.1 (NS.out _ HY0.out.2.1))
 have R7 := qH (R6.out.fr hX.1 (NS.out _ HBB.out))
 have F7 := qH (show Fr (fun x => S x ∨ U x) w w7 from (F6.out.mono (fun x hx => .inr hx)).trans (hX.1.mono (fun x hx => .inl hx)))
 have XS := qH (show ∀ x, S' x → S x ∨ w.heap.size ≤ x from fun x hx => (hX.2 x hx).imp id (fun y => by have := F6.out.size; omega))
 have L7 := qH hL
 have N7 := qH (show ∀ x, w.heap.size ≤ x → x < w6.heap.size → ¬ S' x from fun x h1 h2 h3 => (hX.2 x h3).elim (NS.out x h1) (fun y => by omega))
 have O7 := qH (show X < w6.heap.size ∧ Y < w6.heap.size ∧ V < w6.heap.size ∧ W < w6.heap.size ∧ bb < w6.heap.size from ⟨block_lt X6.out.x, block_lt X6.out.y, block_lt Y6.out, block_lt Z6.out, R6.out.lt⟩)
 clear hL hX X6 Y6 Z6 S6 R6 F6 L6
 have c0 := Z7.out.c0
 have c1 := Z7.out.free
 go_wp2_with fail
 clear c0 c1
 have hf8 : Fr (fun b => b = W) w7 (w7.setCell ⟨W, 0, none⟩ (.bool true)) := (Fr.refl (fun b => b = W) _).setCell (p := ⟨W, 0, none⟩) (.inr rfl) _
 have hz8 := Z7.out.set (.bool true)
 obtain ⟨w8, hw8⟩ : ∃ x, x = w7.setCell ⟨W, 0, none⟩ (.bool true) := ⟨_, rfl⟩
 rw [← hw8] at hf8 hz8 ⊢
 clear hw8
 have Y8 := qH (X7.out.y.fr hf8 (fun e => HVX.out.2.1 e.symm))
 have V8 := qH (Y7.out.fr hf8 HY0.out.2.2)
 have Z8 := qH hz8
 have R8 := qH (R7.out.fr hf8 HVX.out.2.2.2.1)
 have F8 := qH (F7.out.intoN hf8 (fun x hx => by have hx : x = W := hx; have := HY0.out; exact .inr (by omega)))
 have L8 := qH (L7.out.box DK hf8 (fun x hx => by
  have hx : x = W := hx
  subst hx
  exact ⟨by have := H.out.lc.bel.size; have := HY0.out; omega, N7.out _ HY0.out.2.1 O7.out.2.2.2.1, (H.out.fresh HY0.out.2.1).2⟩))
 have CV := qH (show w8.drew.cell? ⟨V, 0, none⟩ = some (.slice (some ⟨bb, 0, none⟩) n n) from V8.out.c0)
 have CB := qH (show w8.drew.cell? ⟨bb, 0, none⟩ = some (.int .i64 (p0 : Int)) from by
  have := R8.out.cell (j := 0) (v := .int .i64 (p0 : Int)) (by rw [HP0.out, ncells, List.getElem?_map, List.getElem?_eq_getElem (by rw [HPL.out]; exact hn1), List.getD_eq_getElem?_getD, List.getElem?_eq_getElem (by rw [HPL.out]; exact hn1)]; rfl)
  exact this)
 have XY := qH (show Sc16 w8.drew Y 0 0 0 0 from Y8.out)
 have sz := qH (size_sc16 0 0 0 0)
 have i1 : (0 : Int) < (n : Int) := by omega
 clear hf8 hz8
 refine wp_calm16 ?_
 refine wp_region_held_drew (S := fun w' => Fr (fun b => b = Y) w8.drew w') (by kernel_rfl) (Fr.refl _ _) (fun hHeld => ?_)
 clear hHeld
 refine tL 0 (some 68) (v := ?vs0) rfl ?ys0 (Fr.refl _ _) ?rs0
 case ys0 =>
  intro wq hSw
  (try dsimp only at hSw)
  have hq := hSw.cell_some CV.out (fun h => HVX.out.1 h)
  go_simp <;> with_reducible rfl
 try simp only [Act.put,sA,sB,sC]
 refine tA 1 (some 69) rfl (Fr.refl _ _) ?_
 refine tL 2 (some 70) (v := ?vs2) rfl ?ys2 (Fr.refl _ _) ?rs2
 case ys2 =>
  intro wq hSw
  (try dsimp only at hSw)
  have hq := hSw.cell_some CB.out (fun h => HVX.out.2.2.2.2 h)
  go_simp <;> with_reducible rfl
 try simp only [Act.put,sA,sB,sC]
 refine tA 3 (some 71) rfl (Fr.refl _ _) ?_
 refine tA 4 (some 72) rfl (Fr.refl _ _) ?_
 refine tA 5 (some 73) rfl (Fr.refl _ _) ?_
 refine tA 6 (some 74) rfl (Fr.refl _ _) ?_
 refine tL 7 (some 75) (v := ?vs7) rfl ?ys7 (Fr.refl _ _) ?rs7
 case ys7 =>
  intro wq hSw
  (try dsimp only at hSw)
  have hq := hSw.cell_some CV.out (fun h => HVX.out.1 h)
  go_simp <;> with_reducible rfl
 try simp only [Act.put,sA,sB,sC]
 refine rW 8 none rfl fun K hK => ?_
 refine wp_store_row (o := ⟨none, _, _, _, _, _⟩) 38 (.tmp 8) (.const (.agg #[.int .i64 0, .int .u64 0, .int .i64 0, .int .i64 0])) rfl Y #[.int .i64 0, .int .u64 0, .int .i64 0, .int .i64 0] rfl rfl 38 _ XY.out sz.out rfl one_sc16 ?_
 have hy : Sc16 (w8.drew.setRow Y #[.int .i64 0, .int .u64 0, .int .i64 0, .int .i64 0]) Y 0 0 0 0 := setRow_heap _ _ _ _ _ _ XY.out
 have hfr : Fr (fun b => b = Y) w8.drew (w8.drew.setRow Y #[.int .i64 0, .int .u64 0, .int .i64 0, .int .i64 0]) := Fr.setRow1 _
 obtain ⟨v1, hv⟩ : ∃ x, x = w8.drew.setRow Y #[.int .i64 0, .int .u64 0, .int .i64 0, .int .i64 0] := ⟨_, rfl⟩
 rw [← hv] at hy hfr ⊢
 have XY := qH hy
 have FA := qH (show Fr (fun b => b = Y) w8 v1 from (Fr.drew (Fr.refl _ _)).trans hfr)
 clear hv hy
 refine hK.out _ _ hfr (fun hHeld => ?_)
 clear hK K hHeld
 try simp only [Act.put]
 refine wpAnyH_re (S' := fun w' => Fr (fun b => b = Y) v1 w') (fun w' h => hfr.trans h) ?_
 clear hfr
 refine tA 9 (some 76) rfl (Fr.refl _ _) ?_
 refine rW 10 none rfl fun K hK => ?_
 have q0 := XY.out.c0
 have q1 := XY.out.free 0
 go_simp
 clear q0 q1
 have hy := XY.out.set0 (p0 : Int)
 have hfr : Fr (fun b => b = Y) v1 (v1.setCell ⟨Y, 0, none⟩ (.int .i64 (p0 : Int))) := (Fr.refl (fun b => b = Y) _).setCell (p := ⟨Y, 0, none⟩) (.inr rfl) _
 obtain ⟨v2, hv⟩ : ∃ x, x = v1.setCell ⟨Y, 0, none⟩ (.int .i64 (p0 : Int)) := ⟨_, rfl⟩
 rw [← hv] at hy hfr ⊢
 have XY := qH hy
 have FA := qH (FA.out.trans hfr)
 clear hv hy
 refine hK.out _ _ hfr (fun hHeld => ?_)
 clear hK K hHeld
 try simp only [Act.put]
 refine wpAnyH_re (S' := fun w' => Fr (fun b => b = Y) v2 w') (fun w' h => hfr.trans h) ?_
 clear hfr
 refine tA 11 (some 77) rfl (Fr.refl _ _) ?_
 refine rW 12 none rfl fun K hK => ?_
 have q0 := XY.out.c1
 have q1 := XY.out.free 1
 go_simp
 clear q0 q1
 have hy := XY.out.set1 (g : Int)
 have hfr : Fr (fun b => b = Y) v2 (v2.setCell ⟨Y, 1, none⟩ (.int .u64 (g : Int))) := (Fr.refl (fun b => b = Y) _).setCell (p := ⟨Y, 1, none⟩) (.inr rfl) _
 obtain ⟨v3, hv⟩ : ∃ x, x = v2.setCell ⟨Y, 1, none⟩ (.int .u64 (g : Int)) := ⟨_, rfl⟩
 rw [← hv] at hy hfr ⊢
 have XY := qH hy
 have FA := qH (FA.out.trans hfr)
 clear hv hy
 refine hK.out _ _ hfr (fun hHeld => ?_)
 clear hK K hHeld
 try simp only [Act.put]
 refine wpAnyH_re (S' := fun w' => Fr (fun b => b = Y) v3 w') (fun w' h => hfr.trans h) ?_
 clear hfr
 refine tA 13 (some 78) rfl (Fr.refl _ _) ?_
 refine rW 14 none rfl fun K hK => ?_
 have q0 := XY.out.c2
 have q1 := XY.out.free 2
 go_simp
 clear q0 q1
 have hy := XY.out.set2 (n : Int)
 have hfr : Fr (fun b => b = Y) v3 (v3.setCell ⟨Y, 2, none⟩ (.int .i64 (n : Int))) := (Fr.refl (fun b => b = Y) _).setCell (p := ⟨Y, 2, none⟩) (.inr rfl) _
 obtain ⟨v4, hv⟩ : ∃ x, x = v3.setCell ⟨Y, 2, none⟩ (.int .i64 (n : Int)) := ⟨_, rfl⟩
 rw [← hv] at hy hfr ⊢
 have XY := qH hy
 have FA := qH (FA.out.trans hfr)
 clear hv hy
 refine hK.out _ _ hfr (fun hHeld => ?_)
 clear hK K hHeld
 try simp only [Act.put]
 refine wpAnyH_re (S' := fun w' => Fr (fun b => b = Y) v4 w') (fun w' h => hfr.trans h) ?_
 clear hfr
 refine tA 15 (some 79) rfl (Fr.refl _ _) ?_
 refine rW 16 none rfl fun K hK => ?_
 have q0 := XY.out.c3
 have q1 := XY.out.free 3
 go_simp
 clear q0 q1
 have hy := XY.out.set3 (q : Int)
 have hfr : Fr (fun b => b = Y) v4 (v4.setCell ⟨Y, 3, none⟩ (.int .i64 (q : Int))) := (Fr.refl (fun b => b = Y) _).setCell (p := ⟨Y, 3, none⟩) (.inr rfl) _
 obtain ⟨v5, hv⟩ : ∃ x, x = v4.setCell ⟨Y, 3, none⟩ (.int .i64 (q : Int)) := ⟨_, rfl⟩
 rw [← hv] at hy hfr ⊢
 have XY := qH hy
 have FA := qH (FA.out.trans hfr)
 clear hv hy
 refine hK.out _ _ hfr (fun hHeld => ?_)
 clear hK K hHeld
 try simp only [Act.put]
 refine wpAnyH_re (S' := fun w' => Fr (fun b => b = Y) v5 w') (fun w' h => hfr.trans h) ?_
 clear hfr
 refine tA 17 (some 9) rfl (Fr.refl _ _) ?_
 refine tA 18 (some 10) rfl (Fr.refl _ _) ?_
 refine tD ?_
 refine calm16_normal ?_
 go_wp2_with fail
 have Z9 := qH (Z8.out.fr FA.out HVX.out.2.1)
 refine leaves_cons (f := 46) (args := #[.pointer (some ⟨W, 0, none⟩), .pointer (some ⟨X, 0, none⟩), .pointer (some ⟨V, 0, none⟩)]) (by simp) (by simp [go_sem]) ?_
 refine (put1_16 W X V .returning _ Z9.out).mono ?_
 rintro e u' w9 ⟨rfl, rfl, rfl⟩
 have sz9 := qH (size_sc16 (p0 : Int) (g : Int) (n : Int) (q : Int))
 refine ⟨_, results_cell_two Tryz.results14 _ _ Y 38 _ (0, 0) _ rfl XY.out Tryz.underlying38 rfl sz9.out, ?_⟩
 refine ⟨bb, S', rfl, R8.out.fr FA.out HVX.out.2.2.2.2, HBB.out, N7.out bb HBB.out O7.out.2.2.2.2, L8.out.box DK FA.out (fun x hx => ?_), F8.out.intoN FA.out (fun x hx => by have hx : x = Y := hx; have := HX0.out; exact .inr (by omega)), XS.out⟩
 have hx : x = Y := hx
 subst hx
 exact ⟨by have := H.out.lc.bel.size; have := HX0.out; omega, N7.out _ HX0.out.2 O7.out.2.1, (H.out.fresh HX0.out.2).2⟩
end
end Go.Proofs.YtokbhgbajdomnaaGreatDoor

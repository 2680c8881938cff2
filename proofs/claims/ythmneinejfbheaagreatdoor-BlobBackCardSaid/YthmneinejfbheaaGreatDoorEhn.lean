/-
  BlobBack's state: an array, a coder, a pool, and the values that were put, as plain data and in memory. Conditions: drives as 'DrvK' says. No walk.
-/
import Derived.Test.YthmneinejfbheaaGreatDoorEhk
set_option linter.unusedVariables false
namespace Go.Proofs.YthmneinejfbheaaGreatDoor
open Go.RowKit Go.Proofs
structure Vr where
 ps : List Nat
 g : Nat
 b : List UInt8
 bb : Nat
 A : Option Addr
 c : Nat
def blC (v : Vr) : List Value := [.slice (some ⟨v.bb, 0, none⟩) v.ps.length v.ps.length, .int .u64 (v.g : Int), .int .i64 (v.b.length : Int)]
theorem blC_len (v : Vr) : (blC v).length = 3 := rfl
theorem blC_one (v : Vr) : ∀ x ∈ blC v, x.oneCell' = true := by
 intro x hx
 simp [blC] at hx
 rcases hx with rfl | rfl | rfl <;> rfl
def hdC (v : Vr) : Value := .slice v.A v.b.length v.c
/-! Plain. -/
structure Pv (k m N : Nat) (xs : List Dv) (p : Ps) (vs : List Vr) : Prop where
 val : ∀ v ∈ vs, Val xs k (k + m) N v.ps v.g v.b (fun _ => true)
 ok : ∀ v ∈ vs, VOk k N v.ps v.g
 cnt : ∀ v ∈ vs, countN (44 * k) v.b.length = v.ps.length ∧ v.b.length ≤ 400
 tk : ∀ v ∈ vs, ∀ x ∈ v.ps, ∃ j, j < p.n ∧ x = p.a + j ∧ p.f j = true
theorem Pv.nil {k m N : Nat} {xs : List Dv} {p : Ps} : Pv k m N xs p [] := ⟨fun v hv => absurd hv List.not_mem_nil, fun v hv => absurd hv List.not_mem_nil, fun v hv => absurd hv List.not_mem_nil, fun v hv => absurd hv List.not_mem_nil⟩
theorem placesL_mem {p : Ps} {l : List Nat} {x : Nat} (h : x ∈ placesL p l) : ∃ j, j ∈ l ∧ x = p.a + j := by
 rw [placesL, List.mem_map] at h
 obtain ⟨j, hj, e⟩ := h
 exact ⟨j, hj, e.symm⟩
theorem Pv.put {k m N n : Nat} {xs : List Dv} {p : Ps} {vs : List Vr} {l : List Nat} {v : Vr} (h : Pv k m N xs p vs) (hl : Lt12 p.n n p.f l) (hv : VOk k N (placesL p l) (genP p)) (hn : countN (44 * k) v.b.length = n) (hz : v.b.length ≤ 400) (hps : v.ps = placesL p l) (hg : v.g = genP p)
  (hlen : xs.length = k + m) (hns : ∀ (d : Nat) (x : Dv), xs[d]? = some x → x.Ok ∧ x.n = N) (hgo : ∀ (d : Nat) (x : Dv), xs[d]? = some x → x.gone = false) : Pv k m N (putV k (k + m) (placesL p l) (genP p) v.b xs n) (takenP p l n) (vs ++ [v]) := by
 have hpl : (placesL p l).length = n := by rw [placesL, List.length_map, hl.len]
 have hfree : ∀ j, j ∈ l → j < p.n ∧ p.f j = false := fun j hj => by
  obtain ⟨i, hi, e⟩ := mem_getD15 hj
  rw [hl.len] at hi
  rw [← e]
  exact hl.free i hi
 have hap : ∀ u ∈ vs, ∀ x ∈ u.ps, x ∉ placesL p l := fun u hu x hx hm => by
  obtain ⟨j, hj, rfl⟩ := placesL_mem hm
  obtain ⟨j', h1, h2, h3⟩ := h.tk u hu _ hx
  obtain rfl : j = j' := by omega
  rw [(hfree j hj).2] at h3
  cases h3
 refine ⟨fun u hu => ?_, fun u hu => ?_, fun u hu => ?_, fun u hu x hx => ?_⟩
 ·rcases List.mem_append.1 hu with hu | hu
  ·have := (h.val u hu).aside (b := v.b) hv (hap u hu)
   rwa [hpl] at this
  ·obtain rfl : u = v := by simpa using hu
   intro i hi
   rw [hps] at hi ⊢
   rw [hg]
   exact putV_val hv hlen hns hgo n (by rw [hpl]; exact Nat.le_refl _) i (by rw [hpl] at hi; exact hi)
 ·rcases List.mem_append.1 hu with hu | hu
  ·exact h.ok u hu
  ·obtain rfl : u = v := by simpa using hu
   rw [hps, hg]; exact hv
 ·rcases List.mem_append.1 hu with hu | hu
  ·exact h.cnt u hu
  ·obtain rfl : u = v := by simpa using hu
   rw [hps, hpl]; exact ⟨hn, hz⟩
 ·rcases List.mem_append.1 hu with hu | hu
  ·obtain ⟨j, h1, h2, h3⟩ := h.tk u hu x hx
   exact ⟨j, h1, h2, takeAll_old h3⟩
  ·obtain rfl : u = v := by simpa using hu
   rw [hps] at hx
   obtain ⟨j, hj, e⟩ := placesL_mem hx
   exact ⟨j, (hfree j hj).1, e, takeAll_new (hfree j hj).1 hj⟩
theorem Pv.flush {k m N : Nat} {xs : List Dv} {p : Ps} {vs : List Vr} (h : Pv k m N xs p vs) : Pv k m N (flushS xs (k + m)) p vs := ⟨fun v hv => (h.val v hv).flush (h.ok v hv), h.ok, h.cnt, h.tk⟩
theorem Val.failZ {xs : List Dv} {k n N g : Nat} {ps : List Nat} {b : List UInt8} {gl : List Int} (h : Val xs k n N ps g b (fun _ => true)) : Val (failZ gl xs gl.length) k n N ps g b (goodZ gl gl.length) := fun i hi => (h i hi).failZ gl.length (Nat.le_refl _)
theorem flushS_ns {xs : List Dv} {n N : Nat} (h : ∀ (d : Nat) (x : Dv), xs[d]? = some x → x.Ok ∧ x.n = N) : ∀ (d : Nat) (x : Dv), (flushS xs n)[d]? = some x → x.Ok ∧ x.n = N := fun d x hx => by
 have hd := get_lt hx
 rw [flushS, upTo_len] at hd
 have hy : xs[d]? = some (xs[d]) := List.getElem?_eq_getElem hd
 obtain ⟨h1, h2⟩ := h d _ hy
 rw [flushS, upTo_at hy] at hx
 injection hx with hx
 rw [← hx]
 split
 ·unfold Dv.flush1
  split
  ·exact ⟨h1, h2⟩
  ·exact ⟨h1.flush, by rw [Dv.flush_n]; exact h2⟩
 ·exact ⟨h1, h2⟩
theorem Rw.blAt {w : World} {b n cap i : Nat} {l : List Vr} {v : Vr} (h : Rw w b 25 3 n cap (l.flatMap blC)) (hi : l[i]? = some v) : w.rangeAt b (i * 3) (blC v) :=
 h.range fun j hj => flat_get blC_len hi j hj
/-! In memory. -/
section
variable {Rep : World → (Nat → Prop) → Nat → Dv → Prop} {w0 w w' : World} {S S' U : Nat → Prop} {A C k m F T N P : Nat} {xs ys : List Dv} {p p' : Ps}
def Off15 (w0 : World) (S U : Nat → Prop) (C F T : Nat) (b : Nat) : Prop := w0.heap.size ≤ b ∧ ¬ S b ∧ ¬ U b ∧ b ≠ C ∧ b ≠ F ∧ b ≠ T ∧ b ≠ 1
theorem Lc15.off (h : Lc15 Rep w0 w S A C k m F T N xs U P p) {b : Nat} (hb : w.heap.size ≤ b) : Off15 w0 S U C F T b := ⟨by have := h.lc.bel.size; omega, h.fresh hb⟩
structure Vm (w0 w : World) (S U : Nat → Prop) (C F T : Nat) (v : Vr) : Prop where
 pl : Rw w v.bb 3 1 v.ps.length v.ps.length (ncells v.ps)
 off : Off15 w0 S U C F T v.bb
 sl : Sl w 1 v.A v.b.length v.c (cells v.b)
 slo : ∀ bb o, 0 < v.b.length → v.A = some ⟨bb, o, none⟩ → bb < w0.heap.size
structure Lb15 (Rep : World → (Nat → Prop) → Nat → Dv → Prop) (w0 w : World) (S : Nat → Prop) (A C k m F T N : Nat) (xs : List Dv) (U : Nat → Prop) (P : Nat) (p : Ps) (vs : List Vr) (A0 A1 : Option Addr) (c0 c1 : Nat) : Prop where
 lc : Lc15 Rep w0 w S A C k m F T N xs U P p
 all : Rn w A0 25 3 vs.length c0 (vs.flatMap blC)
 had : Rn w A1 49 1 vs.length c1 (vs.map hdC)
 aoff : ∀ x, Bk A0 x ∨ Bk A1 x → Off15 w0 S U C F T x
 vm : ∀ v ∈ vs, Vm w0 w S U C F T v
variable {vs : List Vr} {A0 A1 : Option Addr} {c0 c1 : Nat}
theorem Lb15.later (DK : DrvK Rep) (h : Lb15 Rep w0 w S A C k m F T N xs U P p vs A0 A1 c0 c1) (hb : Below w.heap.size w w') : Lb15 Rep w0 w' S A C k m F T N xs U P p vs A0 A1 c0 c1 :=
 ⟨h.lc.later DK hb, h.all.later hb, h.had.later hb, h.aoff, fun v hv => ⟨(h.vm v hv).pl.later hb, (h.vm v hv).off, (h.vm v hv).sl.below hb (Nat.le_refl _), (h.vm v hv).slo⟩⟩
theorem Lb15.put (h : Lb15 Rep w0 w S A C k m F T N xs U P p vs A0 A1 c0 c1) (hl : Lc15 Rep w0 w' S' A C k m F T N ys U P p') (hf : Fr (fun x => S x ∨ U x) w w') (hS : ∀ x, S' x → S x ∨ w.heap.size ≤ x) : Lb15 Rep w0 w' S' A C k m F T N ys U P p' vs A0 A1 c0 c1 := by
 have ho : ∀ x, x < w.heap.size → Off15 w0 S U C F T x → Off15 w0 S' U C F T x := fun x hx hq => ⟨hq.1, fun q => (hS x q).elim hq.2.1 (fun q => by omega), hq.2.2⟩
 have hn : ∀ x, Off15 w0 S U C F T x → ¬ (S x ∨ U x) := fun x hq q => q.elim hq.2.1 hq.2.2.1
 refine ⟨hl, h.all.fr hf fun b hb => hn b (h.aoff b (.inl hb)), h.had.fr hf fun b hb => hn b (h.aoff b (.inr hb)), fun x hx => ho x ?_ (h.aoff x hx), fun v hv => ?_⟩
 ·exact hx.elim (fun q => h.all.lt q) (fun q => h.had.lt q)
 ·have hm := h.vm v hv
  exact ⟨hm.pl.fr hf (hn _ hm.off), ho _ hm.pl.lt hm.off, hm.sl.fr hf fun bb o h0 hA q => by
   have := hm.slo bb o h0 hA
   rcases q with q | q
   ·have := h.lc.lc.lo _ q; omega
   ·have := h.lc.ulo _ q; omega, hm.slo⟩
theorem Lb15.mut (h : Lb15 Rep w0 w S A C k m F T N xs U P p vs A0 A1 c0 c1) (hm : MutA Rep S A ys w w') (hl : ys.length = xs.length) (hn : ∀ (d : Nat) (x : Dv), ys[d]? = some x → x.Ok ∧ x.n = N) (hw : Wl 1000 ys) : ∃ S', Lb15 Rep w0 w' S' A C k m F T N ys U P p vs A0 A1 c0 c1 := by
 obtain ⟨S', h1, h2⟩ := h.lc.mut hm hl hn hw
 exact ⟨S', h.put h1 (h2.1.mono fun x hx => .inl hx) h2.2⟩
theorem Rn.ne15 {w : World} {A A' : Option Addr} {T T' : TypeId} {k k' n n' c c' : Nat} {xs ys : List Value} (h : Rn w A T k n c xs) (h' : Rn w A' T' k' n' c' ys) (hT : T ≠ T') {b : Nat} (hb : Bk A b) : ¬ Bk A' b := by
 intro hb'
 obtain ⟨o, ho⟩ := hb
 obtain ⟨o', ho'⟩ := hb'
 rcases h with ⟨_, e, _⟩ | ⟨g, e, hr⟩
 ·rw [e] at ho; cases ho
 rcases h' with ⟨_, e', _⟩ | ⟨g', e', hr'⟩
 ·rw [e'] at ho'; cases ho'
 rw [e] at ho
 rw [e'] at ho'
 injection ho with ho
 injection ho with h1 _
 injection ho' with ho'
 injection ho' with h2 _
 subst h1 h2
 obtain ⟨cur, h3, _⟩ := hr.ex
 obtain ⟨cur', h4, _⟩ := hr'.ex
 rw [h3] at h4
 injection h4 with h4
 injection h4 with _ h5 _
 exact hT h5
theorem Vm.ne0 {v : Vr} {A' : Option Addr} {T' : TypeId} {k' n' c' : Nat} {ys : List Value} (h : Vm w0 w S U C F T v) (h' : Rn w A' T' k' n' c' ys) (hT : 3 ≠ T') : ¬ Bk A' v.bb := Rn.ne15 (.inr ⟨v.bb, rfl, h.pl⟩) h' hT ⟨0, rfl⟩
theorem Vm.fr {v : Vr} {V : Nat → Prop} (h : Vm w0 w S U C F T v) (hf : Fr V w w') (hV : ∀ b, V b → Off15 w0 S U C F T b) (hn : ¬ V v.bb) : Vm w0 w' S U C F T v := ⟨h.pl.fr hf hn, h.off, h.sl.fr hf fun bb o h0 hA q => by have := h.slo bb o h0 hA; have := (hV _ q).1; omega, h.slo⟩
variable {wA wB : World} {A0' A1' : Option Addr} {c0' c1' : Nat}
theorem Lb15.had1 (h : Lb15 Rep w0 w S A C k m F T N xs U P p vs A0 A1 c0 c1) (hf : Fr (Bk A0) w wA) : Rn wA A1 49 1 vs.length c1 (vs.map hdC) := h.had.fr hf fun b hb => Rn.ne15 h.had h.all (by decide) hb
theorem Lb15.push (DK : DrvK Rep) (h : Lb15 Rep w0 w S A C k m F T N xs U P p vs A0 A1 c0 c1) {v : Vr} (hv : Vm w0 w S U C F T v) (hA : Rn wA A0' 25 3 (vs.length + 1) c0' (vs.flatMap blC ++ blC v)) (hfA : Fr (Bk A0) w wA) (hoA : ∀ x, Bk A0' x → Bk A0 x ∨ w.heap.size ≤ x)
  (hB : Rn wB A1' 49 1 (vs.length + 1) c1' (vs.map hdC ++ [hdC v])) (hfB : Fr (Bk A1) wA wB) (hoB : ∀ x, Bk A1' x → Bk A1 x ∨ wA.heap.size ≤ x) : Lb15 Rep w0 wB S A C k m F T N xs U P p (vs ++ [v]) A0' A1' c0' c1' := by
 have h1 := h.had1 hfA
 have o0 : ∀ b, Bk A0 b → Off15 w0 S U C F T b := fun b hb => h.aoff b (.inl hb)
 have o1 : ∀ b, Bk A1 b → Off15 w0 S U C F T b := fun b hb => h.aoff b (.inr hb)
 have vA : ∀ u, Vm w0 w S U C F T u → Vm w0 wB S U C F T u := fun u hu => by
  have q := hu.fr hfA o0 (hu.ne0 h.all (by decide))
  exact q.fr hfB o1 (q.ne0 h1 (by decide))
 have hs := hfA.size
 refine ⟨(h.lc.box DK hfA o0).box DK hfB o1, ?_, ?_, fun x hx => ?_, fun u hu => ?_⟩
 ·rw [List.length_append, List.flatMap_append]
  have := hA.fr hfB fun b hb => Rn.ne15 hA h1 (by decide) hb
  simpa using this
 ·rw [List.length_append, List.map_append]
  exact hB
 ·rcases hx with hx | hx
  ·exact (hoA x hx).elim (o0 x) (fun q => h.lc.off q)
  ·exact (hoB x hx).elim (o1 x) (fun q => h.lc.off (by omega))
 ·rcases List.mem_append.1 hu with hu | hu
  ·exact vA u (h.vm u hu)
  ·obtain rfl : u = v := by simpa using hu
   exact vA u hv
end
end Go.Proofs.YthmneinejfbheaaGreatDoor

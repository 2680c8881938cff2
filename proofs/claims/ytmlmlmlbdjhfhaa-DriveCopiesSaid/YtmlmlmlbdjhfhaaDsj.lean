/-
  A drive and the document's drive, side by side within a law's call ('Pq'); what each call makes of them. Nothing is proved of the package here.
-/
import Derived.Test.YtmlmlmlbdjhfhaaDsh
import Derived.Test.YtmlmlmlbdjhfhaaDsi
namespace Go.Proofs.Ytmlmlmlbdjhfhaa
open Go.RowKit Go.Proofs
set_option linter.unusedVariables false

/-- What an act makes of a drive. -/
def Dv.act (x : Dv) (a : Ac) : Dv :=
  if a.kind = 0 ∨ a.kind = 1 ∨ a.kind = 2 then x.write a.at_ (full a.c)
  else if a.kind = 3 then x.flush1
  else if a.kind = 4 then x.crash a.ks
  else if a.kind = 5 then x.fail
  else if a.kind = 6 then x.replace
  else if a.kind = 7 then x.rot1 a.at_ a.off (a.mask : Int)
  else if a.kind = 9 then x.write a.at_ a.b
  else x
theorem Dv.write_wl (x : Dv) (z : Int) (l : List UInt8) : (x.write z l).wait.length ≤ x.wait.length + 1 := by
  unfold Dv.write
  split
  · omega
  · split
    · simp
    · omega
theorem Dv.flush_wl (x : Dv) : x.flush1.wait.length ≤ x.wait.length := by
  unfold Dv.flush1
  split
  · omega
  · show ([] : List (Nat × List UInt8)).length ≤ _; simp
theorem Dv.rot_wl (x : Dv) (z o m : Int) : (x.rot1 z o m).wait.length ≤ x.wait.length := by
  unfold Dv.rot1
  split
  · exact Nat.le_refl _
  · exact Nat.le_refl _
/-- At block D lies the drive xd, at block X the document's drive xr; S: the blocks of both. -/
structure Pq (Rep : World → (Nat → Prop) → Nat → Dv → Prop) (w0 w : World) (S : Nat → Prop) (D X k : Nat) (xd xr : Dv) : Prop where
  ex : ∃ Sa Sb, Rep w Sa D xd ∧ Rf w Sb X k xr ∧ (∀ b, Sa b → ¬ Sb b) ∧ ∀ b, S b ↔ Sa b ∨ Sb b
  lo : ∀ b, S b → w0.heap.size ≤ b
  bel : Below w0.heap.size w0 w
  wl : xd.wait.length ≤ k
/-- The blocks behind a call. -/
def Nx (S S' : Nat → Prop) (w w' : World) : Prop := Fr S w w' ∧ ∀ b, S' b → S b ∨ w.heap.size ≤ b
section
variable {Rep : World → (Nat → Prop) → Nat → Dv → Prop} {w0 w w' : World} {S : Nat → Prop} {D X k : Nat} {xd xr y : Dv}
theorem Pq.lt (DK : DrvK Rep) (h : Pq Rep w0 w S D X k xd xr) {b : Nat} (hb : S b) : b < w.heap.size := by
  obtain ⟨Sa, Sb, hd, hr, _, hS⟩ := h.ex
  rcases (hS b).1 hb with q | q
  · exact DK.old hd b q
  · exact hr.1 b q
theorem Pq.fr (DK : DrvK Rep) (h : Pq Rep w0 w S D X k xd xr) {T : Nat → Prop} (hf : Fr T w w') (hT : ∀ b, S b → ¬ T b) (hb : Below w0.heap.size w0 w') : Pq Rep w0 w' S D X k xd xr := by
  obtain ⟨Sa, Sb, hd, hr, hdj, hS⟩ := h.ex
  exact ⟨⟨Sa, Sb, DK.fr hd hf (fun b hb => hT b ((hS b).2 (.inl hb))), hr.fr hf (fun b hb => hT b ((hS b).2 (.inr hb))), hdj, hS⟩, h.lo, hb, h.wl⟩
theorem Pq.later (DK : DrvK Rep) (h : Pq Rep w0 w S D X k xd xr) (hb : Below w.heap.size w w') : Pq Rep w0 w' S D X k xd xr := h.fr DK (Fr.of_below hb : Fr (fun _ => False) _ _) (fun _ _ h => h) (h.bel.trans (hb.mono h.bel.size))
theorem Pq.mono (h : Pq Rep w0 w S D X k xd xr) {k' : Nat} (hk : k ≤ k') : Pq Rep w0 w S D X k' xd xr := by
  obtain ⟨Sa, Sb, hd, hr, hdj, hS⟩ := h.ex
  exact ⟨⟨Sa, Sb, hd, hr.mono hk, hdj, hS⟩, h.lo, h.bel, Nat.le_trans h.wl hk⟩
theorem Pq.ofD (DK : DrvK Rep) (h : Pq Rep w0 w S D X k xd xr) {Sa Sb : Nat → Prop} (hr : Rf w Sb X k xr) (hdj : ∀ b, Sa b → ¬ Sb b) (hS : ∀ b, S b ↔ Sa b ∨ Sb b) (hm : MutD Rep Sa D y w w') {k' : Nat} (hk : k ≤ k') (hw : y.wait.length ≤ k') : ∃ S', Pq Rep w0 w' S' D X k' y xr ∧ Nx S S' w w' := by
  obtain ⟨Sa', hd', hf, hs⟩ := hm
  have hfS := hf.mono (fun b hb => (hS b).2 (.inl hb))
  refine ⟨fun b => Sa' b ∨ Sb b, ⟨⟨Sa', Sb, hd', (hr.mono hk).fr hf (fun b hb hb' => hdj b hb' hb), fun b hb hb' => ?_, fun _ => Iff.rfl⟩, fun b hb => ?_, h.bel.trans (hfS.below h.bel.size h.lo), hw⟩, hfS, fun b hb => ?_⟩
  · rcases hs b hb with q | q
    · exact hdj b q hb'
    · have := hr.1 b hb'
      omega
  · rcases hb with hb | hb
    · rcases hs b hb with q | q
      · exact h.lo b ((hS b).2 (.inl q))
      · have := h.bel.size; omega
    · exact h.lo b ((hS b).2 (.inr hb))
  · rcases hb with hb | hb
    · exact (hs b hb).imp (fun q => (hS b).2 (.inl q)) id
    · exact .inl ((hS b).2 (.inr hb))
theorem Pq.ofR (DK : DrvK Rep) (h : Pq Rep w0 w S D X k xd xr) {Sa Sb : Nat → Prop} (hd : Rep w Sa D xd) (hdj : ∀ b, Sa b → ¬ Sb b) (hS : ∀ b, S b ↔ Sa b ∨ Sb b) {k' : Nat} (hm : MutR Sb X k' y w w') (hk : k ≤ k') : ∃ S', Pq Rep w0 w' S' D X k' xd y ∧ Nx S S' w w' := by
  obtain ⟨Sb', hr', hf, hs⟩ := hm
  have hfS := hf.mono (fun b hb => (hS b).2 (.inr hb))
  refine ⟨fun b => Sa b ∨ Sb' b, ⟨⟨Sa, Sb', DK.fr hd hf (fun b hb => hdj b hb), hr', fun b hb hb' => ?_, fun _ => Iff.rfl⟩, fun b hb => ?_, h.bel.trans (hfS.below h.bel.size h.lo), Nat.le_trans h.wl hk⟩, hfS, fun b hb => ?_⟩
  · rcases hs b hb' with q | q
    · exact hdj b hb q
    · have := DK.old hd b hb
      omega
  · rcases hb with hb | hb
    · exact h.lo b ((hS b).2 (.inl hb))
    · rcases hs b hb with q | q
      · exact h.lo b ((hS b).2 (.inr q))
      · have := h.bel.size; omega
  · rcases hb with hb | hb
    · exact .inl ((hS b).2 (.inl hb))
    · exact (hs b hb).imp (fun q => (hS b).2 (.inr q)) id
theorem Pq.dwrite (DK : DrvK Rep) (h : Pq Rep w0 w S D X k xd xr) (hk : k ≤ 100000) (z : Int) (A : Option Addr) (n c : Nat) (l : List UInt8) (h1 : -9223372036854775808 ≤ z) (h2 : z < 9223372036854775808) (hs : Sl w 1 A n c (cells l)) :
    Calls Try.prog 9 #[.pointer (some ⟨D, 0, none⟩), .int .i64 z, .slice A n c] w fun e w' => e = .returned (.int .i64 (xd.writeX z l)) ∧ ∃ S', Pq Rep w0 w' S' D X (k + 1) (xd.write z l) xr ∧ Nx S S' w w' := by
  obtain ⟨Sa, Sb, hd, hr, hdj, hS⟩ := h.ex
  refine (DK.write z A n c l h1 h2 (Nat.le_trans h.wl hk) hd hs).mono ?_
  rintro e w' ⟨rfl, hm⟩
  exact ⟨rfl, h.ofD DK hr hdj hS hm (Nat.le_succ _) (by have := Dv.write_wl xd z l; have := h.wl; omega)⟩
theorem Pq.xwrite (DK : DrvK Rep) (h : Pq Rep w0 w S D X k xd xr) (hk : k ≤ 100000) (z : Int) (A : Option Addr) (n c : Nat) (l : List UInt8) (h1 : -9223372036854775808 ≤ z) (h2 : z < 9223372036854775808) (hs : Sl w 1 A n c (cells l)) :
    Calls Try.prog 32 #[.pointer (some ⟨X, 0, none⟩), .int .i64 z, .slice A n c] w fun e w' => e = .returned (.int .i64 (xr.writeX z l)) ∧ ∃ S', Pq Rep w0 w' S' D X (k + 1) xd (xr.write z l) ∧ Nx S S' w w' := by
  obtain ⟨Sa, Sb, hd, hr, hdj, hS⟩ := h.ex
  refine (rfwrite_any z A n c l h1 h2 hk hr hs).mono ?_
  rintro e w' ⟨rfl, hm⟩
  exact ⟨rfl, h.ofR DK hd hdj hS hm (Nat.le_succ _)⟩
theorem Pq.dflush (DK : DrvK Rep) (h : Pq Rep w0 w S D X k xd xr) (hk : k ≤ 100000) :
    Calls Try.prog 11 #[.pointer (some ⟨D, 0, none⟩)] w fun e w' => e = .returned (.int .i64 xd.flushX) ∧ ∃ S', Pq Rep w0 w' S' D X k xd.flush1 xr ∧ Nx S S' w w' := by
  obtain ⟨Sa, Sb, hd, hr, hdj, hS⟩ := h.ex
  refine (DK.flush (Nat.le_trans h.wl hk) hd).mono ?_
  rintro e w' ⟨rfl, hm⟩
  exact ⟨rfl, h.ofD DK hr hdj hS hm (Nat.le_refl _) (Nat.le_trans (Dv.flush_wl xd) h.wl)⟩
theorem Pq.xflush (DK : DrvK Rep) (h : Pq Rep w0 w S D X k xd xr) (hk : k ≤ 100000) :
    Calls Try.prog 33 #[.pointer (some ⟨X, 0, none⟩)] w fun e w' => e = .returned (.int .i64 xr.flushX) ∧ ∃ S', Pq Rep w0 w' S' D X k xd xr.flush1 ∧ Nx S S' w w' := by
  obtain ⟨Sa, Sb, hd, hr, hdj, hS⟩ := h.ex
  refine (rfflush_any hk hr).mono ?_
  rintro e w' ⟨rfl, hm⟩
  exact ⟨rfl, h.ofR DK hd hdj hS hm (Nat.le_refl _)⟩
theorem Pq.dcrash (DK : DrvK Rep) (h : Pq Rep w0 w S D X k xd xr) (hk : k ≤ 100000) (A : Option Addr) (n c : Nat) (ks : List Bool) (hs : Sl w0 1 A n c (bcells ks)) :
    Calls Try.prog 12 #[.pointer (some ⟨D, 0, none⟩), .slice A n c] w fun e w' => e = .returned (.tuple #[]) ∧ ∃ S', Pq Rep w0 w' S' D X k (xd.crash ks) xr ∧ Nx S S' w w' := by
  obtain ⟨Sa, Sb, hd, hr, hdj, hS⟩ := h.ex
  refine (DK.crash A n c ks (Nat.le_trans h.wl hk) hd (hs.below h.bel (Nat.le_refl _)) (fun b o hn he hb => by have := hs.lt (by decide) hn he; have := h.lo b ((hS b).2 (.inl hb)); omega)).mono ?_
  rintro e w' ⟨rfl, hm⟩
  exact ⟨rfl, h.ofD DK hr hdj hS hm (Nat.le_refl _) (by show ([] : List (Nat × List UInt8)).length ≤ _; simp)⟩
theorem Pq.xcrash (DK : DrvK Rep) (h : Pq Rep w0 w S D X k xd xr) (hk : k ≤ 100000) (A : Option Addr) (n c : Nat) (ks : List Bool) (hs : Sl w0 1 A n c (bcells ks)) :
    Calls Try.prog 34 #[.pointer (some ⟨X, 0, none⟩), .slice A n c] w fun e w' => e = .returned (.tuple #[]) ∧ ∃ S', Pq Rep w0 w' S' D X k xd (xr.crash ks) ∧ Nx S S' w w' := by
  obtain ⟨Sa, Sb, hd, hr, hdj, hS⟩ := h.ex
  refine (rfcrash_any A n c ks hk hr (hs.below h.bel (Nat.le_refl _)) (fun b o hn he hb => by have := hs.lt (by decide) hn he; have := h.lo b ((hS b).2 (.inr hb)); omega)).mono ?_
  rintro e w' ⟨rfl, hm⟩
  exact ⟨rfl, h.ofR DK hd hdj hS hm (Nat.le_refl _)⟩
theorem Pq.dfail (DK : DrvK Rep) (h : Pq Rep w0 w S D X k xd xr) :
    Calls Try.prog 17 #[.pointer (some ⟨D, 0, none⟩)] w fun e w' => e = .returned (.tuple #[]) ∧ ∃ S', Pq Rep w0 w' S' D X k xd.fail xr ∧ Nx S S' w w' := by
  obtain ⟨Sa, Sb, hd, hr, hdj, hS⟩ := h.ex
  refine (DK.fail hd).mono ?_
  rintro e w' ⟨rfl, hm⟩
  exact ⟨rfl, h.ofD DK hr hdj hS hm (Nat.le_refl _) (Nat.zero_le _)⟩
theorem Pq.xfail (DK : DrvK Rep) (h : Pq Rep w0 w S D X k xd xr) :
    Calls Try.prog 35 #[.pointer (some ⟨X, 0, none⟩)] w fun e w' => e = .returned (.tuple #[]) ∧ ∃ S', Pq Rep w0 w' S' D X k xd xr.fail ∧ Nx S S' w w' := by
  obtain ⟨Sa, Sb, hd, hr, hdj, hS⟩ := h.ex
  refine (rffail_any hr).mono ?_
  rintro e w' ⟨rfl, hm⟩
  exact ⟨rfl, h.ofR DK hd hdj hS hm (Nat.le_refl _)⟩
theorem Pq.dreplace (DK : DrvK Rep) (h : Pq Rep w0 w S D X k xd xr) :
    Calls Try.prog 19 #[.pointer (some ⟨D, 0, none⟩)] w fun e w' => e = .returned (.tuple #[]) ∧ ∃ S', Pq Rep w0 w' S' D X k xd.replace xr ∧ Nx S S' w w' := by
  obtain ⟨Sa, Sb, hd, hr, hdj, hS⟩ := h.ex
  refine (DK.replace hd).mono ?_
  rintro e w' ⟨rfl, hm⟩
  exact ⟨rfl, h.ofD DK hr hdj hS hm (Nat.le_refl _) (Nat.zero_le _)⟩
theorem Pq.xreplace (DK : DrvK Rep) (h : Pq Rep w0 w S D X k xd xr) :
    Calls Try.prog 36 #[.pointer (some ⟨X, 0, none⟩)] w fun e w' => e = .returned (.tuple #[]) ∧ ∃ S', Pq Rep w0 w' S' D X k xd xr.replace ∧ Nx S S' w w' := by
  obtain ⟨Sa, Sb, hd, hr, hdj, hS⟩ := h.ex
  refine (rfreplace_any hr).mono ?_
  rintro e w' ⟨rfl, hm⟩
  exact ⟨rfl, h.ofR DK hd hdj hS hm (Nat.le_refl _)⟩
theorem Pq.drot (DK : DrvK Rep) (h : Pq Rep w0 w S D X k xd xr) (z off : Int) (mask : Nat) (h1 : -9223372036854775808 ≤ z) (h2 : z < 9223372036854775808) (h3 : -9223372036854775808 ≤ off) (h4 : off < 9223372036854775808) (h5 : mask < 4294967296) :
    Calls Try.prog 15 #[.pointer (some ⟨D, 0, none⟩), .int .i64 z, .int .i64 off, .int .u32 (mask : Int)] w fun e w' => e = .returned (.int .i64 (xd.rotX z off (mask : Int))) ∧ ∃ S', Pq Rep w0 w' S' D X k (xd.rot1 z off (mask : Int)) xr ∧ Nx S S' w w' := by
  obtain ⟨Sa, Sb, hd, hr, hdj, hS⟩ := h.ex
  refine (DK.rot z off mask h1 h2 h3 h4 h5 hd).mono ?_
  rintro e w' ⟨rfl, hm⟩
  exact ⟨rfl, h.ofD DK hr hdj hS hm (Nat.le_refl _) (Nat.le_trans (Dv.rot_wl xd _ _ _) h.wl)⟩
theorem Pq.xrot (DK : DrvK Rep) (h : Pq Rep w0 w S D X k xd xr) (hk : k ≤ 100000) (z off : Int) (mask : Nat) (h1 : -9223372036854775808 ≤ z) (h2 : z < 9223372036854775808) (h3 : -9223372036854775808 ≤ off) (h4 : off < 9223372036854775808) (h5 : mask < 4294967296) :
    Calls Try.prog 37 #[.pointer (some ⟨X, 0, none⟩), .int .i64 z, .int .i64 off, .int .u32 (mask : Int)] w fun e w' => e = .returned (.int .i64 (xr.rotX z off (mask : Int))) ∧ ∃ S', Pq Rep w0 w' S' D X (k + 1) xd (xr.rot1 z off (mask : Int)) ∧ Nx S S' w w' := by
  obtain ⟨Sa, Sb, hd, hr, hdj, hS⟩ := h.ex
  refine (rfrot_any z off mask h1 h2 h3 h4 h5 hk hr).mono ?_
  rintro e w' ⟨rfl, hm⟩
  exact ⟨rfl, h.ofR DK hd hdj hS hm (Nat.le_succ _)⟩
theorem Nx.trans {S S' S'' : Nat → Prop} {w w1 w2 : World} (h : Nx S S' w w1) (h' : Nx S' S'' w1 w2) : Nx S S'' w w2 :=
  ⟨h.1.into h'.1 h.2, fun b hb => (h'.2 b hb).elim (h.2 b) (fun q => .inr (by have := h.1.size; omega))⟩
theorem Nx.below {S S' : Nat → Prop} {w w1 w2 : World} (h : Nx S S' w1 w2) (hb : Below w.heap.size w w1) : Nx S S' w w2 := ⟨(Fr.of_below hb).trans h.1, fun b hb' => (h.2 b hb').imp id (fun q => by have := hb.size; omega)⟩
theorem Nx.later {S S' : Nat → Prop} {w w1 w2 : World} (h : Nx S S' w w1) (hb : Below w1.heap.size w1 w2) : Nx S S' w w2 := ⟨h.1.trans (Fr.of_below hb), h.2⟩
theorem Nx.refl (S : Nat → Prop) (w : World) : Nx S S w w := ⟨Fr.refl _ _, fun _ hb => .inl hb⟩
end
end Go.Proofs.Ytmlmlmlbdjhfhaa

/-
  An array and the document's side by side, within a law's call ('Pa'): what becomes of both, call by call. Condition: bounds. (Written by gen_dtr.py.)
-/
import Derived.Test.YtjjoeaneaibklaaDtq
import Derived.Test.YtjjoeaneaibklaaDtm
namespace Go.Proofs.Ytjjoeaneaibklaa
open Go.RowKit Go.Proofs
set_option linter.unusedVariables false

/-- An array that reads as xa, and the document's that reads as xr; S: the blocks of both. -/
structure Pa (Rep : World → (Nat → Prop) → Nat → Dv → Prop) (w0 w : World) (S : Nat → Prop) (A X k : Nat) (xa xr : List Dv) : Prop where
  ex : ∃ Sa Sb, AP Rep w Sa A xa ∧ RX k w Sb X xr ∧ (∀ b, Sa b → ¬ Sb b) ∧ ∀ b, S b ↔ Sa b ∨ Sb b
  lo : ∀ b, S b → w0.heap.size ≤ b
  bel : Below w0.heap.size w0 w
  wl : Wl k xa
  la : 0 < xa.length ∧ xa.length ≤ 12
  lx : 0 < xr.length ∧ xr.length ≤ 12
section
variable {Rep : World → (Nat → Prop) → Nat → Dv → Prop} {w0 w w' : World} {S : Nat → Prop} {A X k : Nat} {xa xr ya yr : List Dv}
theorem Pa.lt (h : Pa Rep w0 w S A X k xa xr) {b : Nat} (hb : S b) : b < w.heap.size := by
  obtain ⟨Sa, Sb, ha, hr, _, hS⟩ := h.ex
  rcases (hS b).1 hb with q | q
  · exact Arr.old ha q
  · exact Arr.old hr q
theorem Pa.later (DK : DrvK Rep) (h : Pa Rep w0 w S A X k xa xr) (hb : Below w.heap.size w w') : Pa Rep w0 w' S A X k xa xr := by
  obtain ⟨Sa, Sb, ha, hr, hdj, hS⟩ := h.ex
  exact ⟨⟨Sa, Sb, Arr.later DK.lay ha hb, Arr.later (layX k) hr hb, hdj, hS⟩, h.lo, h.bel.trans (hb.mono h.bel.size), h.wl, h.la, h.lx⟩
theorem Pa.mono (h : Pa Rep w0 w S A X k xa xr) {k' : Nat} (hk : k ≤ k') : Pa Rep w0 w S A X k' xa xr := by
  obtain ⟨Sa, Sb, ha, hr, hdj, hS⟩ := h.ex
  exact ⟨⟨Sa, Sb, ha, RX.mono hr hk, hdj, hS⟩, h.lo, h.bel, wl_up h.wl hk, h.la, h.lx⟩
theorem Pa.ofA (DK : DrvK Rep) (h : Pa Rep w0 w S A X k xa xr) {Sa Sb : Nat → Prop} (hr : RX k w Sb X xr) (hdj : ∀ b, Sa b → ¬ Sb b) (hS : ∀ b, S b ↔ Sa b ∨ Sb b) (hm : MutA Rep Sa A ya w w') {k' : Nat} (hk : k ≤ k') (hw : Wl k' ya) (hl : ya.length = xa.length) : ∃ S', Pa Rep w0 w' S' A X k' ya xr ∧ Nxt S S' w w' := by
  obtain ⟨Sa', ha', hn⟩ := hm
  have hfS := hn.1.mono (fun b hb => (hS b).2 (.inl hb))
  refine ⟨fun b => Sa' b ∨ Sb b, ⟨⟨Sa', Sb, ha', Arr.fr (layX k') (RX.mono hr hk) hn.1 (fun b hb hb' => hdj b hb' hb), fun b hb hb' => ?_, fun _ => Iff.rfl⟩, fun b hb => ?_, h.bel.trans (hfS.below h.bel.size h.lo), hw, by rw [hl]; exact h.la, h.lx⟩, hfS, fun b hb => ?_⟩
  · rcases hn.2 b hb with q | q
    · exact hdj b q hb'
    · have := Arr.old hr hb'
      omega
  · rcases hb with hb | hb
    · rcases hn.2 b hb with q | q
      · exact h.lo b ((hS b).2 (.inl q))
      · have := h.bel.size; omega
    · exact h.lo b ((hS b).2 (.inr hb))
  · rcases hb with hb | hb
    · exact (hn.2 b hb).imp (fun q => (hS b).2 (.inl q)) id
    · exact .inl ((hS b).2 (.inr hb))
theorem Pa.ofX (DK : DrvK Rep) (h : Pa Rep w0 w S A X k xa xr) {Sa Sb : Nat → Prop} (ha : AP Rep w Sa A xa) (hdj : ∀ b, Sa b → ¬ Sb b) (hS : ∀ b, S b ↔ Sa b ∨ Sb b) {k' : Nat} (hm : MutX k' Sb X yr w w') (hk : k ≤ k') (hl : yr.length = xr.length) : ∃ S', Pa Rep w0 w' S' A X k' xa yr ∧ Nxt S S' w w' := by
  obtain ⟨Sb', hr', hn⟩ := hm
  have hfS := hn.1.mono (fun b hb => (hS b).2 (.inr hb))
  refine ⟨fun b => Sa b ∨ Sb' b, ⟨⟨Sa, Sb', Arr.fr DK.lay ha hn.1 (fun b hb => hdj b hb), hr', fun b hb hb' => ?_, fun _ => Iff.rfl⟩, fun b hb => ?_, h.bel.trans (hfS.below h.bel.size h.lo), wl_up h.wl hk, h.la, by rw [hl]; exact h.lx⟩, hfS, fun b hb => ?_⟩
  · rcases hn.2 b hb' with q | q
    · exact hdj b hb q
    · have := Arr.old ha hb
      omega
  · rcases hb with hb | hb
    · exact h.lo b ((hS b).2 (.inl hb))
    · rcases hn.2 b hb with q | q
      · exact h.lo b ((hS b).2 (.inr q))
      · have := h.bel.size; omega
  · rcases hb with hb | hb
    · exact .inl ((hS b).2 (.inl hb))
    · exact (hn.2 b hb).imp (fun q => (hS b).2 (.inr q)) id
theorem flush_len (xs : List Dv) (t : Nat) : (flushS xs t).length = xs.length := upTo_len
theorem crash_len (xs : List Dv) (kss : List (List Bool)) (t : Nat) : (crashS xs kss t).length = xs.length := upTo_len
theorem putS_len (xs : List Dv) (rs : List (List UInt8)) (z : Int) (t : Nat) : (putS xs rs z t).length = xs.length := upTo_len
theorem upTo_wl10 {k k' t : Nat} {xs : List Dv} {F : Nat → Dv → Dv} (h : Wl k xs) (hF : ∀ i x, x.wait.length ≤ k → (F i x).wait.length ≤ k') (hk : k ≤ k') : Wl k' (upTo F xs t) := fun i x hx => by
  have hi := get_lt hx
  rw [upTo_len] at hi
  have hy : xs[i]? = some (xs[i]) := List.getElem?_eq_getElem hi
  rw [upTo_at hy] at hx
  injection hx with hx
  rw [← hx]
  split
  · exact hF i _ (h i _ hy)
  · exact Nat.le_trans (h i _ hy) hk
theorem put_wl {k t : Nat} {z : Int} {xs : List Dv} {rs : List (List UInt8)} (h : Wl k xs) : Wl (k + 1) (putS xs rs z t) := upTo_wl10 h (fun i x hx => by
  unfold putF
  split
  · exact write_wait x _ _ _ hx
  · exact Nat.le_succ_of_le hx) (Nat.le_succ _)
theorem on_wl0 {z : Int} {k : Nat} {xs : List Dv} {f : Dv → Dv} (h : Wl k xs) (hf : ∀ x, x.wait.length ≤ k → (f x).wait.length ≤ k) : Wl k (onD xs z f) := by
  rcases ofD_cases xs z with ⟨i, x, rfl, hx⟩ | hn
  · rw [onD_yes hx]
    intro j y hy
    rw [List.getElem?_set] at hy
    split at hy
    · split at hy
      · injection hy with hy
        rw [← hy]
        exact hf x (h i x hx)
      · cases hy
    · exact h j y hy
  · rw [onD_no hn]
    exact h
theorem Pa.dwrite (DK : DrvK Rep) (h : Pa Rep w0 w S A X k xa xr) (hk : k ≤ 90000) (z at_ : Int) (A2 : Option Addr) (n2 c2 : Nat) (l : List UInt8) (h1 : -9223372036854775808 ≤ at_) (h2 : at_ < 9223372036854775808) (hs : Sl w 1 A2 n2 c2 (cells l)) : Calls Try.prog 21 #[.pointer (some ⟨A, 0, none⟩), .int .i64 z, .int .i64 at_, .slice A2 n2 c2] w fun e w' => e = .returned (.int .i64 (tellD xa z (fun x => x.writeX at_ l) 2)) ∧ ∃ S', Pa Rep w0 w' S' A X (k + 1) (onD xa z (fun x => x.write at_ l)) xr ∧ Nxt S S' w w' := by
  obtain ⟨Sa, Sb, ha, hr, hdj, hS⟩ := h.ex
  have hla := h.la
  refine (arwrite_any DK ha hla.1 z at_ A2 n2 c2 l h1 h2 (wl_up h.wl (by omega)) hs).mono ?_
  rintro e w' ⟨rfl, hm⟩
  exact ⟨rfl, h.ofA DK hr hdj hS hm (by omega) (on_wl h.wl (fun x hx => write_wait x _ _ _ hx)) onD_len⟩
theorem Pa.xwrite (DK : DrvK Rep) (h : Pa Rep w0 w S A X k xa xr) (hk : k ≤ 90000) (z at_ : Int) (A2 : Option Addr) (n2 c2 : Nat) (l : List UInt8) (h1 : -9223372036854775808 ≤ at_) (h2 : at_ < 9223372036854775808) (hs : Sl w 1 A2 n2 c2 (cells l)) : Calls Try.prog 36 #[.pointer (some ⟨X, 0, none⟩), .int .i64 z, .int .i64 at_, .slice A2 n2 c2] w fun e w' => e = .returned (.int .i64 (tellD xr z (fun x => x.writeX at_ l) 2)) ∧ ∃ S', Pa Rep w0 w' S' A X (k + 1) xa (onD xr z (fun x => x.write at_ l)) ∧ Nxt S S' w w' := by
  obtain ⟨Sa, Sb, ha, hr, hdj, hS⟩ := h.ex
  have hlx := h.lx
  refine (rxwrite_any hr hlx.1 z at_ A2 n2 c2 l h1 h2 (by omega) hs).mono ?_
  rintro e w' ⟨rfl, hm⟩
  exact ⟨rfl, h.ofX DK ha hdj hS hm (by omega) onD_len⟩
theorem Pa.dflush (DK : DrvK Rep) (h : Pa Rep w0 w S A X k xa xr) (hk : k ≤ 90000) : Calls Try.prog 31 #[.pointer (some ⟨A, 0, none⟩)] w fun e w' => e = .returned (.int .i64 (flushN xa xa.length : Nat)) ∧ ∃ S', Pa Rep w0 w' S' A X k (flushS xa xa.length) xr ∧ Nxt S S' w w' := by
  obtain ⟨Sa, Sb, ha, hr, hdj, hS⟩ := h.ex
  have hla := h.la
  refine (arflush_any DK ha (wl_up h.wl (by omega)) (by omega)).mono ?_
  rintro e w' ⟨rfl, hm⟩
  exact ⟨rfl, h.ofA DK hr hdj hS hm (by omega) (upTo_wl10 h.wl (fun i x hx => flush_wait1 x k hx) (Nat.le_refl _)) (flush_len _ _)⟩
theorem Pa.xflush (DK : DrvK Rep) (h : Pa Rep w0 w S A X k xa xr) (hk : k ≤ 90000) : Calls Try.prog 37 #[.pointer (some ⟨X, 0, none⟩)] w fun e w' => e = .returned (.int .i64 (flushN xr xr.length : Nat)) ∧ ∃ S', Pa Rep w0 w' S' A X k xa (flushS xr xr.length) ∧ Nxt S S' w w' := by
  obtain ⟨Sa, Sb, ha, hr, hdj, hS⟩ := h.ex
  have hlx := h.lx
  refine (rxflush_any hr hlx.1 (by omega) (by omega)).mono ?_
  rintro e w' ⟨rfl, hm⟩
  exact ⟨rfl, h.ofX DK ha hdj hS hm (by omega) (flush_len _ _)⟩
theorem Pa.dfail (DK : DrvK Rep) (h : Pa Rep w0 w S A X k xa xr) (hk : k ≤ 90000) (z : Int) : Calls Try.prog 23 #[.pointer (some ⟨A, 0, none⟩), .int .i64 z] w fun e w' => e = .returned (.int .i64 (tellD xa z (fun _ => 0) 2)) ∧ ∃ S', Pa Rep w0 w' S' A X k (onD xa z (fun x => x.fail)) xr ∧ Nxt S S' w w' := by
  obtain ⟨Sa, Sb, ha, hr, hdj, hS⟩ := h.ex
  have hla := h.la
  refine (arfail_any DK ha hla.1 z).mono ?_
  rintro e w' ⟨rfl, hm⟩
  exact ⟨rfl, h.ofA DK hr hdj hS hm (by omega) (on_wl0 h.wl (fun x hx => Nat.zero_le _)) onD_len⟩
theorem Pa.xfail (DK : DrvK Rep) (h : Pa Rep w0 w S A X k xa xr) (hk : k ≤ 90000) (z : Int) : Calls Try.prog 39 #[.pointer (some ⟨X, 0, none⟩), .int .i64 z] w fun e w' => e = .returned (.int .i64 (tellD xr z (fun _ => 0) 2)) ∧ ∃ S', Pa Rep w0 w' S' A X k xa (onD xr z (fun x => x.fail)) ∧ Nxt S S' w w' := by
  obtain ⟨Sa, Sb, ha, hr, hdj, hS⟩ := h.ex
  have hlx := h.lx
  refine (rxfail_any hr hlx.1 z).mono ?_
  rintro e w' ⟨rfl, hm⟩
  exact ⟨rfl, h.ofX DK ha hdj hS hm (by omega) onD_len⟩
theorem Pa.dreplace (DK : DrvK Rep) (h : Pa Rep w0 w S A X k xa xr) (hk : k ≤ 90000) (z : Int) : Calls Try.prog 24 #[.pointer (some ⟨A, 0, none⟩), .int .i64 z] w fun e w' => e = .returned (.int .i64 (tellD xa z (fun _ => 0) 2)) ∧ ∃ S', Pa Rep w0 w' S' A X k (onD xa z (fun x => x.replace)) xr ∧ Nxt S S' w w' := by
  obtain ⟨Sa, Sb, ha, hr, hdj, hS⟩ := h.ex
  have hla := h.la
  refine (arreplace_any DK ha hla.1 z).mono ?_
  rintro e w' ⟨rfl, hm⟩
  exact ⟨rfl, h.ofA DK hr hdj hS hm (by omega) (on_wl0 h.wl (fun x hx => Nat.zero_le _)) onD_len⟩
theorem Pa.xreplace (DK : DrvK Rep) (h : Pa Rep w0 w S A X k xa xr) (hk : k ≤ 90000) (z : Int) : Calls Try.prog 40 #[.pointer (some ⟨X, 0, none⟩), .int .i64 z] w fun e w' => e = .returned (.int .i64 (tellD xr z (fun _ => 0) 2)) ∧ ∃ S', Pa Rep w0 w' S' A X k xa (onD xr z (fun x => x.replace)) ∧ Nxt S S' w w' := by
  obtain ⟨Sa, Sb, ha, hr, hdj, hS⟩ := h.ex
  have hlx := h.lx
  refine (rxreplace_any hr hlx.1 z).mono ?_
  rintro e w' ⟨rfl, hm⟩
  exact ⟨rfl, h.ofX DK ha hdj hS hm (by omega) onD_len⟩
theorem Pa.drot (DK : DrvK Rep) (h : Pa Rep w0 w S A X k xa xr) (hk : k ≤ 90000) (z at_ off : Int) (mask : Nat) (h1 : -9223372036854775808 ≤ at_) (h2 : at_ < 9223372036854775808) (h3 : -9223372036854775808 ≤ off) (h4 : off < 9223372036854775808) (h5 : mask < 4294967296) : Calls Try.prog 25 #[.pointer (some ⟨A, 0, none⟩), .int .i64 z, .int .i64 at_, .int .i64 off, .int .u32 (mask : Int)] w fun e w' => e = .returned (.int .i64 (tellD xa z (fun x => x.rotX at_ off (mask : Int)) 2)) ∧ ∃ S', Pa Rep w0 w' S' A X (k + 1) (onD xa z (fun x => x.rot1 at_ off (mask : Int))) xr ∧ Nxt S S' w w' := by
  obtain ⟨Sa, Sb, ha, hr, hdj, hS⟩ := h.ex
  have hla := h.la
  refine (arrot_any DK ha hla.1 z at_ off mask h1 h2 h3 h4 h5).mono ?_
  rintro e w' ⟨rfl, hm⟩
  exact ⟨rfl, h.ofA DK hr hdj hS hm (by omega) (wl_up (on_wl0 h.wl (fun x hx => by rw [rot_wait]; exact hx)) (Nat.le_succ _)) onD_len⟩
theorem Pa.xrot (DK : DrvK Rep) (h : Pa Rep w0 w S A X k xa xr) (hk : k ≤ 90000) (z at_ off : Int) (mask : Nat) (h1 : -9223372036854775808 ≤ at_) (h2 : at_ < 9223372036854775808) (h3 : -9223372036854775808 ≤ off) (h4 : off < 9223372036854775808) (h5 : mask < 4294967296) : Calls Try.prog 41 #[.pointer (some ⟨X, 0, none⟩), .int .i64 z, .int .i64 at_, .int .i64 off, .int .u32 (mask : Int)] w fun e w' => e = .returned (.int .i64 (tellD xr z (fun x => x.rotX at_ off (mask : Int)) 2)) ∧ ∃ S', Pa Rep w0 w' S' A X (k + 1) xa (onD xr z (fun x => x.rot1 at_ off (mask : Int))) ∧ Nxt S S' w w' := by
  obtain ⟨Sa, Sb, ha, hr, hdj, hS⟩ := h.ex
  have hlx := h.lx
  refine (rxrot_any hr hlx.1 z at_ off mask h1 h2 h3 h4 h5 (by omega)).mono ?_
  rintro e w' ⟨rfl, hm⟩
  exact ⟨rfl, h.ofX DK ha hdj hS hm (by omega) onD_len⟩
theorem Pa.dcrash (DK : DrvK Rep) (h : Pa Rep w0 w S A X k xa xr) (hk : k ≤ 90000) {A2 : Option Addr} {m c2 : Nat} {kss : List (List Bool)} (hks : Ns bcells w0 (fun b => b < w0.heap.size) A2 m c2 kss) : Calls Try.prog 30 #[.pointer (some ⟨A, 0, none⟩), .slice A2 m c2] w fun e w' => e = .returned (.tuple #[]) ∧ ∃ S', Pa Rep w0 w' S' A X k (crashS xa kss xa.length) xr ∧ Nxt S S' w w' := by
  obtain ⟨Sa, Sb, ha, hr, hdj, hS⟩ := h.ex
  have hla := h.la
  refine (arcrash_any DK ha (wl_up h.wl (by omega)) (by omega) (hks.fr (Fr.of_below h.bel : Fr (fun _ => False) _ _) (fun _ _ q => q)) (fun b hb q => by have := h.lo b ((hS b).2 (.inl q)); omega)).mono ?_
  rintro e w' ⟨rfl, hm⟩
  exact ⟨rfl, h.ofA DK hr hdj hS hm (by omega) (upTo_wl10 h.wl (fun i x hx => by rw [crash_wait]; exact Nat.zero_le _) (Nat.le_refl _)) (crash_len _ _ _)⟩
theorem Pa.xcrash (DK : DrvK Rep) (h : Pa Rep w0 w S A X k xa xr) (hk : k ≤ 90000) {A2 : Option Addr} {m c2 : Nat} {kss : List (List Bool)} (hks : Ns bcells w0 (fun b => b < w0.heap.size) A2 m c2 kss) : Calls Try.prog 38 #[.pointer (some ⟨X, 0, none⟩), .slice A2 m c2] w fun e w' => e = .returned (.tuple #[]) ∧ ∃ S', Pa Rep w0 w' S' A X k xa (crashS xr kss xr.length) ∧ Nxt S S' w w' := by
  obtain ⟨Sa, Sb, ha, hr, hdj, hS⟩ := h.ex
  have hlx := h.lx
  refine (rxcrash_any hr hlx.1 (by omega) (by omega) (hks.fr (Fr.of_below h.bel : Fr (fun _ => False) _ _) (fun _ _ q => q)) (fun b hb q => by have := h.lo b ((hS b).2 (.inr q)); omega)).mono ?_
  rintro e w' ⟨rfl, hm⟩
  exact ⟨rfl, h.ofX DK ha hdj hS hm (by omega) (crash_len _ _ _)⟩
theorem Pa.dputrow (DK : DrvK Rep) (h : Pa Rep w0 w S A X k xa xr) (hk : k ≤ 90000) (at_ : Int) (h1 : -9223372036854775808 ≤ at_) (h2 : at_ < 9223372036854775808) {A2 : Option Addr} {m c2 : Nat} {rs : List (List UInt8)} {T : Nat → Prop} (hks : Ns cells w T A2 m c2 rs) (hT : ∀ b, T b → ¬ S b) : Calls Try.prog 19 #[.pointer (some ⟨A, 0, none⟩), .int .i64 at_, .slice A2 m c2] w fun e w' => e = .returned (.int .i64 (putN xa rs at_ (min xa.length m) : Nat)) ∧ ∃ S', Pa Rep w0 w' S' A X (k + 12) (putS xa rs at_ (min xa.length m)) xr ∧ Nxt S S' w w' := by
  obtain ⟨Sa, Sb, ha, hr, hdj, hS⟩ := h.ex
  have hla := h.la
  refine (arputrow_any DK ha (wl_up h.wl (by omega)) (by omega) at_ h1 h2 hks (fun b hb q => hT b hb ((hS b).2 (.inl q)))).mono ?_
  rintro e w' ⟨rfl, hm⟩
  exact ⟨rfl, h.ofA DK hr hdj hS hm (by omega) (wl_up (put_wl h.wl) (by omega)) (putS_len _ _ _ _)⟩
theorem Pa.xputrow (DK : DrvK Rep) (h : Pa Rep w0 w S A X k xa xr) (hk : k ≤ 90000) (at_ : Int) (h1 : -9223372036854775808 ≤ at_) (h2 : at_ < 9223372036854775808) {A2 : Option Addr} {m c2 : Nat} {rs : List (List UInt8)} {T : Nat → Prop} (hks : Ns cells w T A2 m c2 rs) (hT : ∀ b, T b → ¬ S b) : Calls Try.prog 42 #[.pointer (some ⟨X, 0, none⟩), .int .i64 at_, .slice A2 m c2] w fun e w' => e = .returned (.int .i64 (putN xr rs at_ (min xr.length m) : Nat)) ∧ ∃ S', Pa Rep w0 w' S' A X (k + 12) xa (putS xr rs at_ (min xr.length m)) ∧ Nxt S S' w w' := by
  obtain ⟨Sa, Sb, ha, hr, hdj, hS⟩ := h.ex
  have hlx := h.lx
  refine ((rxputrow_any hr hlx.1 (by omega) (by omega) at_ h1 h2 hks (fun b hb q => hT b hb ((hS b).2 (.inr q))))).mono ?_
  rintro e w' ⟨rfl, S', hx, hn⟩
  exact ⟨rfl, h.ofX DK ha hdj hS ⟨S', RX.mono hx (show k + xr.length ≤ k + 12 by omega), hn⟩ (by omega) (putS_len _ _ _ _)⟩
end
end Go.Proofs.Ytjjoeaneaibklaa

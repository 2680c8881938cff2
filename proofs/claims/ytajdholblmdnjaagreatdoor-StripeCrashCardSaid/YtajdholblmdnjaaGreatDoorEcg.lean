/-
  What must be known of package stripe's calls (layer 13), in words of plain drives ('StrK'). Nothing is proved of the package here.
-/
import Derived.Test.YtajdholblmdnjaaGreatDoorEcc
import Derived.Test.YtajdholblmdnjaaGreatDoorEcf
set_option linter.unusedVariables false
namespace Go.Proofs.YtajdholblmdnjaaGreatDoor
open Go.RowKit Go.Proofs
structure Ap13 (S : Nat → Prop) (C F T : Nat) : Prop where
 c : ¬ S C
 f : ¬ S F
 t : ¬ S T
theorem Ap13.next {S S' : Nat → Prop} {C F T : Nat} {w w' : World} (h : Ap13 S C F T) (hn : Nxt S S' w w') (hC : C < w.heap.size) (hF : F < w.heap.size) (hT : T < w.heap.size) : Ap13 S' C F T :=
 ⟨fun q => (hn.2 _ q).elim h.c (fun r => by omega), fun q => (hn.2 _ q).elim h.f (fun r => by omega), fun q => (hn.2 _ q).elim h.t (fun r => by omega)⟩
structure Ac13 (Rep : World → (Nat → Prop) → Nat → Dv → Prop) (w : World) (S : Nat → Prop) (A C k m F T N : Nat) (xs : List Dv) : Prop where
 a : AP Rep w S A xs
 c : Cod w C k m F T
 ap : Ap13 S C F T
 len : xs.length = k + m
 n : ∀ (d : Nat) (x : Dv), xs[d]? = some x → x.Ok ∧ x.n = N
 wl : Wl 1000 xs
 nt : Nt w
 ng : ¬ S 0
theorem Nt.lt13 {w : World} (h : Nt w) : 0 < w.heap.size := by
 obtain ⟨t, fr, hb⟩ := h.block
 exact block_lt hb
theorem Nt.fr13 {w w' : World} {S : Nat → Prop} (h : Nt w) (hf : Fr S w w') (hS : ¬ S 0) : Nt w' := by
 have hl := h.lt13
 have hb := hf.block _ hl hS
 unfold Nt World.var? at *
 rw [gNought] at *
 simp only [Option.bind_some] at *
 rw [hb]
 exact h
structure StrK (Rep : World → (Nat → Prop) → Nat → Dv → Prop) : Prop where
 put : ∀ {w : World} {S : Nat → Prop} {A C k m F T N : Nat} {xs : List Dv} (kd : UInt8) (p g : Nat) (b : List UInt8) (A2 : Option Addr) (c2 : Nat), Ac13 Rep w S A C k m F T N xs → RefOk kd p g b.length (44 * k) → p < N → Sl w 1 A2 b.length c2 (cells b) → (∀ bb o, 0 < b.length → A2 = some ⟨bb, o, none⟩ → ¬ S bb) →
  Calls Tryz.prog 10 #[.pointer (some ⟨A, 0, none⟩), .pointer (some ⟨C, 0, none⟩), .agg #[.int .u8 (kd.toNat : Int), .int .i64 (p : Int), .int .u64 (g : Int)], .slice A2 b.length c2] w fun e w' => e = .returned (.tuple #[.int .i64 (cntG (k + m) (liveG xs) : Nat), .int .i64 0]) ∧ MutA Rep S A (putAll k (k + m) kd p g b xs) w w'
 get : ∀ {w : World} {S : Nat → Prop} {A C k m F T N : Nat} {xs : List Dv} {kd : UInt8} {p g : Nat} {b : List UInt8} {G : Nat → Bool}, Ac13 Rep w S A C k m F T N xs → RefOk kd p g b.length (44 * k) → p < N → Str xs k (k + m) N kd p g b G →
  Calls Tryz.prog 14 #[.pointer (some ⟨A, 0, none⟩), .pointer (some ⟨C, 0, none⟩), .agg #[.int .u8 (kd.toNat : Int), .int .i64 (p : Int), .int .u64 (g : Int)]] w fun e w' => ∃ A2 n2 c2, e = .returned (.tuple #[.slice A2 n2 c2, .int .i64 (if k ≤ cntG (k + m) G then 0 else 130)]) ∧ NewB w A2 n2 c2 (if k ≤ cntG (k + m) G then b else []) w'
 whole : ∀ {w : World} {S : Nat → Prop} {A C k m F T N : Nat} {xs : List Dv} {kd : UInt8} {p g : Nat} {b : List UInt8} {G : Nat → Bool}, Ac13 Rep w S A C k m F T N xs → RefOk kd p g b.length (44 * k) → p < N → Str xs k (k + m) N kd p g b G →
  Calls Tryz.prog 20 #[.pointer (some ⟨A, 0, none⟩), .pointer (some ⟨C, 0, none⟩), .agg #[.int .u8 (kd.toNat : Int), .int .i64 (p : Int), .int .u64 (g : Int)]] w fun e w' => ∃ A2 c2, e = .returned (.slice A2 (k + m) c2) ∧ Sl w' 1 A2 (k + m) c2 (bcells ((List.range (k + m)).map fun i => G (homeN (k + m) p i))) ∧ Below w.heap.size w w' ∧ ∀ bb o, A2 = some ⟨bb, o, none⟩ → w.heap.size ≤ bb
 mend : ∀ {w : World} {S : Nat → Prop} {A C k m F T N : Nat} {xs : List Dv} {kd : UInt8} {p g : Nat} {b : List UInt8} {G : Nat → Bool}, Ac13 Rep w S A C k m F T N xs → RefOk kd p g b.length (44 * k) → p < N → Str xs k (k + m) N kd p g b G → k ≤ cntG (k + m) G →
  Calls Tryz.prog 19 #[.pointer (some ⟨A, 0, none⟩), .pointer (some ⟨C, 0, none⟩), .agg #[.int .u8 (kd.toNat : Int), .int .i64 (p : Int), .int .u64 (g : Int)]] w fun e w' => e = .returned (.tuple #[.int .i64 (cntG (k + m) (fun d => !G d && liveG xs d) : Nat), .int .i64 0]) ∧ MutA Rep S A (upTo (fun d x => if G d = true then x else x.write (p : Int) (sec13 k (k + m) kd p g b d)) xs (k + m)) w w'
 room : ∀ {w : World} {C k m F T : Nat}, Cod w C k m F T → Calls Tryz.prog 24 #[.pointer (some ⟨C, 0, none⟩)] w fun e w' => e = .returned (.int .i64 ((44 * k : Nat) : Int)) ∧ Below w.heap.size w w'
 home : ∀ (w : World) (n p i : Nat), 1 ≤ n → n ≤ 255 → p < 9223372036854775808 → i < 9223372036854775808 → Calls Tryz.prog 23 #[.int .i64 (n : Int), .int .i64 (p : Int), .int .i64 (i : Int)] w fun e w' => e = .returned (.int .i64 (homeN n p i : Nat)) ∧ Below w.heap.size w w'
section
variable {Rep : World → (Nat → Prop) → Nat → Dv → Prop} {w w' : World} {S S' : Nat → Prop} {A C k m F T N : Nat} {xs ys : List Dv}
theorem Ac13.later (DK : DrvK Rep) (h : Ac13 Rep w S A C k m F T N xs) (hb : Below w.heap.size w w') : Ac13 Rep w' S A C k m F T N xs := ⟨h.a.later DK.lay hb, h.c.later hb, h.ap, h.len, h.n, h.wl, h.nt.keep hb, h.ng⟩
theorem Cod.fr {U : Nat → Prop} (h : Cod w C k m F T) (hf : Fr U w w') (h1 : ¬ U C) (h2 : ¬ U F) (h3 : ¬ U T) : Cod w' C k m F T := ⟨hf.row_some h.row h1, h.fld.fr hf h2 h3, h.k1, h.m1, h.n255⟩
theorem Ac13.mut (h : Ac13 Rep w S A C k m F T N xs) (hm : MutA Rep S A ys w w') (hl : ys.length = xs.length) (hn : ∀ (d : Nat) (x : Dv), ys[d]? = some x → x.Ok ∧ x.n = N) (hw : Wl 1000 ys) : ∃ S', Ac13 Rep w' S' A C k m F T N ys ∧ Nxt S S' w w' := by
 obtain ⟨S', ha, hx⟩ := hm
 have hC : C < w.heap.size := block_lt h.c.row
 have hF : F < w.heap.size := World.block_lt_of_cell? w _ h.c.fld.cell
 have hT : T < w.heap.size := h.c.fld.fld.ltT
 exact ⟨S', ⟨ha, h.c.fr hx.1 h.ap.c h.ap.f h.ap.t, h.ap.next hx hC hF hT, hl.trans h.len, hn, hw, h.nt.fr13 hx.1 h.ng, fun q => (hx.2 _ q).elim h.ng (fun r => by have := h.nt.lt13; omega)⟩, hx⟩
structure Lc13 (Rep : World → (Nat → Prop) → Nat → Dv → Prop) (w0 w : World) (S : Nat → Prop) (A C k m F T N : Nat) (xs : List Dv) : Prop where
 ac : Ac13 Rep w S A C k m F T N xs
 lo : ∀ b, S b → w0.heap.size ≤ b
 bel : Below w0.heap.size w0 w
variable {w0 : World}
theorem Lc13.later (DK : DrvK Rep) (h : Lc13 Rep w0 w S A C k m F T N xs) (hb : Below w.heap.size w w') : Lc13 Rep w0 w' S A C k m F T N xs := ⟨h.ac.later DK hb, h.lo, h.bel.trans (hb.mono h.bel.size)⟩
theorem Lc13.mut (h : Lc13 Rep w0 w S A C k m F T N xs) (hm : MutA Rep S A ys w w') (hl : ys.length = xs.length) (hn : ∀ (d : Nat) (x : Dv), ys[d]? = some x → x.Ok ∧ x.n = N) (hw : Wl 1000 ys) : ∃ S', Lc13 Rep w0 w' S' A C k m F T N ys ∧ Nxt S S' w w' := by
 obtain ⟨S', h1, h2⟩ := h.ac.mut hm hl hn hw
 exact ⟨S', ⟨h1, fun b hb => (h2.2 b hb).elim (h.lo b) (fun q => by have := h.bel.size; omega), h.bel.trans (h2.1.below h.bel.size h.lo)⟩, h2⟩
theorem Lc13.made {w : World} {k m s : Nat} {e : Ending} {w' : World} (h : RetMade Rep k m s w e w') (hb : Below w0.heap.size w0 w) (hN : Nt w) : ∃ A S C F T, e = .returned (.tuple #[.pointer (some ⟨A, 0, none⟩), .pointer (some ⟨C, 0, none⟩)]) ∧ Lc13 Rep w0 w' S A C k m F T s (List.replicate (k + m) (Dv.new s)) ∧ (∀ b, S b → w.heap.size ≤ b) ∧ Below w.heap.size w w' := by
 obtain ⟨A, S, C, F, T, he, ha, hc, hbel, hS, _, _, _⟩ := h
 refine ⟨A, S, C, F, T, he, ⟨⟨ha, hc, ⟨fun q => ?_, fun q => ?_, fun q => ?_⟩, List.length_replicate .., fun d x hx => ?_, fun d x hx => ?_, hN.keep hbel, fun q => ?_⟩, fun b hb' => ?_, hb.trans (hbel.mono hb.size)⟩, fun b hb' => (hS b hb').1, hbel⟩
 ·have := (hS _ q).2.1; omega
 ·have := (hS _ q).2.2.1; omega
 ·have := (hS _ q).2.2.2; omega
 ·rw [List.getElem?_replicate] at hx
  split at hx
  ·injection hx with hx; rw [← hx]; exact ⟨Dv.new_ok s, Dv.new_n s⟩
  ·cases hx
 ·rw [Idle.new d x hx]; exact Nat.zero_le _
 ·have := (hS _ q).1; have := hN.lt13; omega
 ·have := (hS b hb').1; have := hb.size; omega
theorem Str.ns {kd : UInt8} {p g n : Nat} {b : List UInt8} {G : Nat → Bool} (h : Str xs k n N kd p g b G) (d : Nat) (x : Dv) (hx : xs[d]? = some x) : x.Ok ∧ x.n = N := ⟨(h.at_ d x hx).ok, (h.at_ d x hx).n⟩
theorem Wl.mono13 {c c' : Nat} {xs : List Dv} (h : Wl c xs) (hk : c ≤ c') : Wl c' xs := fun i x hx => Nat.le_trans (h i x hx) hk
theorem write_wait13 (x : Dv) (z : Int) (l : List UInt8) (c : Nat) (h : x.wait.length ≤ c) : (x.write z l).wait.length ≤ c + 1 := by
 unfold Dv.write
 split
 ·exact Nat.le_succ_of_le h
 ·split
  ·rw [List.length_append, List.length_singleton]; omega
  ·exact Nat.le_succ_of_le h
theorem putAll_wl {kd : UInt8} {p g n c : Nat} {b : List UInt8} (h : Wl c xs) : Wl (c + 1) (putAll k n kd p g b xs) := fun i x hx => by
 have hi := get_lt hx
 rw [putAll, upTo_len] at hi
 have hy : xs[i]? = some (xs[i]) := List.getElem?_eq_getElem hi
 rw [putAll, upTo_at hy] at hx
 injection hx with hx
 rw [← hx]
 split
 ·exact write_wait13 _ _ _ c (h i _ hy)
 ·exact Nat.le_succ_of_le (h i _ hy)
theorem onD_wl {z : Int} {c : Nat} {f : Dv → Dv} (h : Wl c xs) (hf : ∀ x, x.wait.length ≤ c → (f x).wait.length ≤ c) : Wl c (onD xs z f) := by
 rcases ofD_cases xs z with ⟨i, x, rfl, hx⟩ | hz
 ·intro e y hy
  by_cases he : (e : Int) = (i : Int)
  ·have he : e = i := by omega
   subst he
   rw [onD_yes hx, List.getElem?_set_self (get_lt hx)] at hy
   injection hy with hy
   rw [← hy]
   exact hf _ (h _ _ hx)
  ·rw [onD_ne he] at hy
   exact h e y hy
 ·rw [onD_no hz]; exact h
end
end Go.Proofs.YtajdholblmdnjaaGreatDoor

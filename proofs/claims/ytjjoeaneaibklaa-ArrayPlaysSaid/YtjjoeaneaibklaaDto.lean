/-
  Arrays within a law's call: one is turned, another stays; lists that lie apart. No condition.
-/
import Derived.Test.YtjjoeaneaibklaaDtg
namespace Go.Proofs.Ytjjoeaneaibklaa
open Go.RowKit Go.Proofs
set_option linter.unusedVariables false

/-- append of one value, in a slice that was made for it: the block's number is told apart. -/
theorem wpList_append_made2 {P : Program} {ops : Array Oper} {rest : List Oper} {o : Oper} {a : Act} {Q : Exit → Act → World → Prop} {w : World} {A : Option Addr} {T : TypeId} {n c : Nat} {xs : List Value} {v : Value} (hgd : o.guard = none) (s x : Operand) (t tx : TypeId)
    (ho : o.op = .call { callee := .builtin .append, args := #[s, x], argTypes := #[t, tx] })
    (i : TypeInfo) (z : Value) (bytes : Nat) (ht : P.underlying t = some (.slice T)) (htx : P.underlying tx = some (.slice T)) (hi : P.info? T = some i) (hz : i.zero = some z)
    (hsize : i.size = 1) (hby : i.bytes = bytes) (hzs : z.cells.size = 1) (hb24 : bytes ≤ 24) (hv : a.eval s = .slice A n c) (h : Rn w A T 1 n c xs) (g : Nat) (hg : g = w.heap.size)
    (hx : a.eval x = .slice (some ⟨g, 0, none⟩) 1 1) (h1 : v.oneCell' = true) (h40 : n ≤ 1048576)
    (hk : ∀ A' c' w', Rn w' A' T 1 (n + 1) c' (xs ++ [v]) → Fr (Bk A) w w' → (A' = A ∨ ∃ g, A' = some ⟨g, 0, none⟩ ∧ w.heap.size ≤ g) → wpList P ops Q rest (a.put o.dst (.slice A' (n + 1) c')) w') : wpList P ops Q (o :: rest) a (w.alloc (.cells #[v] T)) := by
  subst hg
  exact wpList_append_made hgd s x t tx ho i z bytes ht htx hi hz hsize hby hzs hb24 hv h hx h1 h40 hk
section
variable {Rep : World → (Nat → Prop) → Nat → Dv → Prop} {w0 w w' : World} {S S' Sb T U : Nat → Prop} {A B : Nat} {xs ys zs : List Dv}
theorem La.mut2 (DK : DrvK Rep) (ha : La Rep w0 w S A xs) (hb : La Rep w0 w Sb B zs) (hd : ∀ b, S b → ¬ Sb b) (hm : MutA Rep S A ys w w') : ∃ S', La Rep w0 w' S' A ys ∧ La Rep w0 w' Sb B zs ∧ (∀ b, S' b → ¬ Sb b) ∧ Nxt S S' w w' := by
  obtain ⟨S', h1, h2⟩ := ha.mut hm
  exact ⟨S', h1, hb.fr DK h2.1 (fun b h q => hd b q h) h1.bel, fun b h q => (h2.2 b h).elim (fun p => hd b p q) (fun p => by have := hb.old q; omega), h2⟩
theorem Nxt.apart (hn : Nxt S S' w w') (h : ∀ b, T b → ¬ S b) (hT : ∀ b, T b → b < w.heap.size) : ∀ b, T b → ¬ S' b := fun b hb q => (hn.2 b q).elim (h b hb) (fun p => by have := hT b hb; omega)
/-- Two sets of blocks, made since world w, that lie apart. -/
structure Two (w wr : World) (T U : Nat → Prop) : Prop where
  one : ∀ b, T b → w.heap.size ≤ b ∧ b < wr.heap.size ∧ ¬ U b
  two : ∀ b, U b → w.heap.size ≤ b ∧ b < wr.heap.size
theorem Two.step {wr w4 w5 : World} (h : Two w wr T U) (h0 : w.heap.size ≤ wr.heap.size) (h1 : wr.heap.size ≤ w4.heap.size) (h2 : w4.heap.size ≤ w5.heap.size) : Two w w5 (fun b => T b ∨ wr.heap.size ≤ b ∧ b < w4.heap.size) (fun b => U b ∨ w4.heap.size ≤ b ∧ b < w5.heap.size) :=
  ⟨fun b hb => by
    rcases hb with hb | hb
    · obtain ⟨g1, g2, g3⟩ := h.one b hb
      exact ⟨g1, by omega, fun q => q.elim g3 (fun q => by omega)⟩
    · exact ⟨by omega, by omega, fun q => q.elim (fun q => by have := (h.two b q).2; omega) (fun q => by omega)⟩, fun b hb => by
    rcases hb with hb | hb
    · obtain ⟨g1, g2⟩ := h.two b hb
      exact ⟨g1, by omega⟩
    · exact ⟨by omega, by omega⟩⟩
theorem info_bb10 : (Try.prog.info? 56).map (fun i => (i.zero, i.size, i.bytes)) = some (some (.slice none 0 0), 1, 24) := by kernel_rfl
theorem wl_nil (h : ∀ (i : Nat) (x : Dv), xs[i]? = some x → x.wait = []) : Wl 100000 xs := fun i x hx => by rw [h i x hx]; exact Nat.zero_le _
theorem byte_next (c : UInt8) (t : Nat) (h : t < 256) : (IntKind.u8.wrap ((c.toNat : Int) + (t : Int))) = ((c + UInt8.ofNat t).toNat : Int) := by
  rw [IntKind.wrap_u8, UInt8.toNat_add, UInt8.toNat_ofNat']
  omega
end
end Go.Proofs.Ytjjoeaneaibklaa

/-
  What of package stripe values are put and got by ('StrV'): with as many shards as are wanted (out of 'StrK'). Condition: drives as 'Ac13' says.
-/
import Derived.Test.YtokbhgbajdomnaaGreatDoorPb
set_option linter.unusedVariables false
namespace Go.Proofs.YtokbhgbajdomnaaGreatDoor
open Go.RowKit Go.Proofs
structure StrV (Rep : World → (Nat → Prop) → Nat → Dv → Prop) (Good : Nat → Nat → (Nat → Bool) → Prop) : Prop where
 put : ∀ {w : World} {S : Nat → Prop} {A C k m F T N : Nat} {xs : List Dv} (kd : UInt8) (p g : Nat) (b : List UInt8) (A2 : Option Addr) (c2 : Nat), Ac13 Rep w S A C k m F T N xs → RefOk kd p g b.length (44 * k) → p < N → Sl w 1 A2 b.length c2 (cells b) →
  Calls Tryz.prog 95 #[.pointer (some ⟨A, 0, none⟩), .pointer (some ⟨C, 0, none⟩), .agg #[.int .u8 (kd.toNat : Int), .int .i64 (p : Int), .int .u64 (g : Int)], .slice A2 b.length c2] w fun e w' => e = .returned (.tuple #[.int .i64 (cntG (k + m) (liveG xs) : Nat), .int .i64 0]) ∧ MutA Rep S A (putAll k (k + m) kd p g b xs) w w'
 get : ∀ {w : World} {S : Nat → Prop} {A C k m F T N : Nat} {xs : List Dv} {kd : UInt8} {p g : Nat} {b : List UInt8} {G : Nat → Bool}, Ac13 Rep w S A C k m F T N xs → RefOk kd p g b.length (44 * k) → p < N → Str xs k (k + m) N kd p g b G → Good k (k + m) G →
  Calls Tryz.prog 112 #[.pointer (some ⟨A, 0, none⟩), .pointer (some ⟨C, 0, none⟩), .agg #[.int .u8 (kd.toNat : Int), .int .i64 (p : Int), .int .u64 (g : Int)]] w fun e w' => ∃ A2 n2 c2, e = .returned (.tuple #[.slice A2 n2 c2, .int .i64 0]) ∧ NewB w A2 n2 c2 b w'
 whole : ∀ {w : World} {S : Nat → Prop} {A C k m F T N : Nat} {xs : List Dv} {kd : UInt8} {p g : Nat} {b : List UInt8} {G : Nat → Bool}, Ac13 Rep w S A C k m F T N xs → RefOk kd p g b.length (44 * k) → p < N → Str xs k (k + m) N kd p g b G →
  Calls Tryz.prog 111 #[.pointer (some ⟨A, 0, none⟩), .pointer (some ⟨C, 0, none⟩), .agg #[.int .u8 (kd.toNat : Int), .int .i64 (p : Int), .int .u64 (g : Int)]] w fun e w' => ∃ A2 c2, e = .returned (.slice A2 (k + m) c2) ∧ Below w.heap.size w w'
 room : ∀ {w : World} {C k m F T : Nat}, Cod w C k m F T → Calls Tryz.prog 127 #[.pointer (some ⟨C, 0, none⟩)] w fun e w' => e = .returned (.int .i64 ((44 * k : Nat) : Int)) ∧ w' = w
theorem strV_any {Rep : World → (Nat → Prop) → Nat → Dv → Prop} (DK : DrvK Rep) : StrV Rep (fun k n G => k ≤ cntG n G) where
 put := fun kd p g b A2 c2 h hr hp hs => stput_any DK kd p g b A2 c2 rfl rfl h hr hp hs
 get := fun {w S A C k m F T N xs kd p g b G} h hr hp hs hG => (stget_any DK rfl rfl h hr hp hs).mono fun e w' hh => by
  rw [if_pos hG, if_pos hG] at hh
  exact hh
 whole := fun h hr hp hs => (stwhole_any DK rfl rfl h hr hp hs).mono fun e w' ⟨A2, c2, h1, _, h3, _⟩ => ⟨A2, c2, h1, h3⟩
 room := fun h => sroom_any h
def StrL (Rep : World → (Nat → Prop) → Nat → Dv → Prop) : Prop := ∀ (w : World) (S : Nat → Prop) (A C k m F T N : Nat) (xs : List Dv) (kd : UInt8) (p g : Nat) (b : List UInt8) (G : Nat → Bool), Ac13 Rep w S A C k m F T N xs → RefOk kd p g b.length (44 * k) → p < N → Str xs k (k + m) N kd p g b G → ¬ k ≤ cntG (k + m) G →
  Calls Tryz.prog 112 #[.pointer (some ⟨A, 0, none⟩), .pointer (some ⟨C, 0, none⟩), .agg #[.int .u8 (kd.toNat : Int), .int .i64 (p : Int), .int .u64 (g : Int)]] w fun e w' => ∃ A2 n2 c2, e = .returned (.tuple #[.slice A2 n2 c2, .int .i64 130]) ∧ Below w.heap.size w w'
theorem strL_any {Rep : World → (Nat → Prop) → Nat → Dv → Prop} (DK : DrvK Rep) : StrL Rep := fun w S A C k m F T N xs kd p g b G h hr hp hs hG => (stget_any DK rfl rfl h hr hp hs).mono fun e w' hh => by
 rw [if_neg hG, if_neg hG] at hh
 obtain ⟨A2, n2, c2, h1, h2⟩ := hh
 exact ⟨A2, n2, c2, h1, h2.2.1⟩
end Go.Proofs.YtokbhgbajdomnaaGreatDoor

/-
  What must be known of package drive's calls (layer 9), in words of plain drives ('DrvK'), and the same within a law's call ('Lv'). Nothing is proved of the package here. The statements' own Full: a sector of one byte.
-/
import Derived.Test.YtmlmlmlbdjhfhaaDra
namespace Go.Proofs.Ytmlmlmlbdjhfhaa
open Go.RowKit Go.Proofs
set_option linter.unusedVariables false

/-- A call that turns a drive: its own blocks alone turn, and new ones are made. -/
def MutD (Rep : World → (Nat → Prop) → Nat → Dv → Prop) (S : Nat → Prop) (D : Nat) (x : Dv) (w w' : World) : Prop := ∃ S', Rep w' S' D x ∧ Fr S w w' ∧ ∀ b, S' b → S b ∨ w.heap.size ≤ b
/-- Bytes in new memory. -/
def NewB (w : World) (A : Option Addr) (n c : Nat) (l : List UInt8) (w' : World) : Prop := Sl w' 1 A n c (cells l) ∧ Below w.heap.size w w' ∧ ∀ b o, 0 < n → A = some ⟨b, o, none⟩ → w.heap.size ≤ b
/-- 'Rep w S D x': at block D lies the drive x, S are its own blocks. -/
structure DrvK (Rep : World → (Nat → Prop) → Nat → Dv → Prop) : Prop where
  fr : ∀ {w w' : World} {S T : Nat → Prop} {D : Nat} {x : Dv}, Rep w S D x → Fr T w w' → (∀ b, S b → ¬ T b) → Rep w' S D x
  old : ∀ {w : World} {S : Nat → Prop} {D : Nat} {x : Dv}, Rep w S D x → ∀ b, S b → b < w.heap.size
  ok : ∀ {w : World} {S : Nat → Prop} {D : Nat} {x : Dv}, Rep w S D x → x.Ok
  new_yes : ∀ (n : Nat) (w : World), 1 ≤ n → n ≤ 600 → Calls Try.prog 8 #[.int .i64 (n : Int)] w fun e w' => ∃ D S, e = .returned (.pointer (some ⟨D, 0, none⟩)) ∧ Rep w' S D (Dv.new n) ∧ Below w.heap.size w w' ∧ ∀ b, S b → w.heap.size ≤ b
  new_no : ∀ (z : Int) (w : World), -9223372036854775808 ≤ z → z < 9223372036854775808 → ¬ (1 ≤ z ∧ z ≤ 600) → Calls Try.prog 8 #[.int .i64 z] w fun e w' => e = .returned (.pointer none) ∧ Below w.heap.size w w'
  sectors : ∀ {w : World} {S : Nat → Prop} {D : Nat} {x : Dv}, Rep w S D x → Calls Try.prog 25 #[.pointer (some ⟨D, 0, none⟩)] w fun e w' => e = .returned (.int .i64 (x.n : Int)) ∧ Below w.heap.size w w'
  waits : ∀ {w : World} {S : Nat → Prop} {D : Nat} {x : Dv}, Rep w S D x → Calls Try.prog 14 #[.pointer (some ⟨D, 0, none⟩)] w fun e w' => e = .returned (.int .i64 (x.wait.length : Int)) ∧ Below w.heap.size w w'
  dead : ∀ {w : World} {S : Nat → Prop} {D : Nat} {x : Dv}, Rep w S D x → Calls Try.prog 18 #[.pointer (some ⟨D, 0, none⟩)] w fun e w' => e = .returned (.bool x.gone) ∧ Below w.heap.size w w'
  read : ∀ {w : World} {S : Nat → Prop} {D : Nat} {x : Dv} (z : Int), -9223372036854775808 ≤ z → z < 9223372036854775808 → x.wait.length ≤ 100000 → Rep w S D x → Calls Try.prog 13 #[.pointer (some ⟨D, 0, none⟩), .int .i64 z] w fun e w' => ∃ A n c, e = .returned (.tuple #[.slice A n c, .int .i64 (x.readX z)]) ∧ NewB w A n c (x.readL z) w'
  write : ∀ {w : World} {S : Nat → Prop} {D : Nat} {x : Dv} (z : Int) (A : Option Addr) (n c : Nat) (l : List UInt8), -9223372036854775808 ≤ z → z < 9223372036854775808 → x.wait.length ≤ 100000 → Rep w S D x → Sl w 1 A n c (cells l) → Calls Try.prog 9 #[.pointer (some ⟨D, 0, none⟩), .int .i64 z, .slice A n c] w fun e w' => e = .returned (.int .i64 (x.writeX z l)) ∧ MutD Rep S D (x.write z l) w w'
  flush : ∀ {w : World} {S : Nat → Prop} {D : Nat} {x : Dv}, x.wait.length ≤ 100000 → Rep w S D x → Calls Try.prog 11 #[.pointer (some ⟨D, 0, none⟩)] w fun e w' => e = .returned (.int .i64 x.flushX) ∧ MutD Rep S D x.flush1 w w'
  crash : ∀ {w : World} {S : Nat → Prop} {D : Nat} {x : Dv} (A : Option Addr) (n c : Nat) (ks : List Bool), x.wait.length ≤ 100000 → Rep w S D x → Sl w 1 A n c (bcells ks) → (∀ b o, 0 < n → A = some ⟨b, o, none⟩ → ¬ S b) → Calls Try.prog 12 #[.pointer (some ⟨D, 0, none⟩), .slice A n c] w fun e w' => e = .returned (.tuple #[]) ∧ MutD Rep S D (x.crash ks) w w'
  fail : ∀ {w : World} {S : Nat → Prop} {D : Nat} {x : Dv}, Rep w S D x → Calls Try.prog 17 #[.pointer (some ⟨D, 0, none⟩)] w fun e w' => e = .returned (.tuple #[]) ∧ MutD Rep S D x.fail w w'
  replace : ∀ {w : World} {S : Nat → Prop} {D : Nat} {x : Dv}, Rep w S D x → Calls Try.prog 19 #[.pointer (some ⟨D, 0, none⟩)] w fun e w' => e = .returned (.tuple #[]) ∧ MutD Rep S D x.replace w w'
  rot : ∀ {w : World} {S : Nat → Prop} {D : Nat} {x : Dv} (z off : Int) (mask : Nat), -9223372036854775808 ≤ z → z < 9223372036854775808 → -9223372036854775808 ≤ off → off < 9223372036854775808 → mask < 4294967296 → Rep w S D x → Calls Try.prog 15 #[.pointer (some ⟨D, 0, none⟩), .int .i64 z, .int .i64 off, .int .u32 (mask : Int)] w fun e w' => e = .returned (.int .i64 (x.rotX z off (mask : Int))) ∧ MutD Rep S D (x.rot1 z off (mask : Int)) w w'
  rotten : ∀ {w : World} {S : Nat → Prop} {D : Nat} {x : Dv} (z : Int), -9223372036854775808 ≤ z → z < 9223372036854775808 → Rep w S D x → Calls Try.prog 16 #[.pointer (some ⟨D, 0, none⟩), .int .i64 z] w fun e w' => e = .returned (.bool (x.rottenB z)) ∧ Below w.heap.size w w'
  stored : ∀ {w : World} {S : Nat → Prop} {D : Nat} {x : Dv} (z : Int), -9223372036854775808 ≤ z → z < 9223372036854775808 → Rep w S D x → Calls Try.prog 42 #[.pointer (some ⟨D, 0, none⟩), .int .i64 z] w fun e w' => ∃ A n c, e = .returned (.slice A n c) ∧ NewB w A n c (x.storedL z) w'
  copy : ∀ {w : World} {S : Nat → Prop} {D : Nat} {x : Dv}, x.wait.length ≤ 100000 → Rep w S D x → Calls Try.prog 23 #[.pointer (some ⟨D, 0, none⟩)] w fun e w' => ∃ D' S', e = .returned (.pointer (some ⟨D', 0, none⟩)) ∧ Rep w' S' D' x ∧ Below w.heap.size w w' ∧ ∀ b, S' b → w.heap.size ≤ b

/-- A drive that a law's call made, which began in world w0; X: blocks that are not the drive's. -/
structure Lv (Rep : World → (Nat → Prop) → Nat → Dv → Prop) (w0 w : World) (X : Nat → Prop) (D : Nat) (x : Dv) : Prop where
  ex : ∃ S, Rep w S D x ∧ ∀ b, S b → w0.heap.size ≤ b ∧ ¬ X b
  bel : Below w0.heap.size w0 w
  xlt : ∀ b, X b → b < w.heap.size
/-- The blocks that a law's drive may turn. -/
def Own9 (w0 : World) (X : Nat → Prop) : Nat → Prop := fun b => w0.heap.size ≤ b ∧ ¬ X b
section
variable {Rep : World → (Nat → Prop) → Nat → Dv → Prop} {w0 w w' : World} {X : Nat → Prop} {D : Nat} {x y : Dv}
theorem Lv.later (K : DrvK Rep) (h : Lv Rep w0 w X D x) (hb : Below w.heap.size w w') : Lv Rep w0 w' X D x := by
  obtain ⟨S, hr, hS⟩ := h.ex
  exact ⟨⟨S, K.fr hr (Fr.of_below hb : Fr (fun _ => False) _ _) (fun _ _ h => h), hS⟩, h.bel.trans (hb.mono h.bel.size), fun b hb' => Nat.lt_of_lt_of_le (h.xlt b hb') hb.size⟩
theorem Lv.frX (K : DrvK Rep) (h : Lv Rep w0 w X D x) (hf : Fr X w w') (hX : ∀ b, X b → w0.heap.size ≤ b) : Lv Rep w0 w' X D x := by
  obtain ⟨S, hr, hS⟩ := h.ex
  exact ⟨⟨S, K.fr hr hf (fun b hb => (hS b hb).2), hS⟩, h.bel.trans (hf.below h.bel.size hX), fun b hb' => Nat.lt_of_lt_of_le (h.xlt b hb') hf.size⟩
theorem Lv.mut (h : Lv Rep w0 w X D x) (hm : ∀ S, Rep w S D x → (∀ b, S b → w0.heap.size ≤ b ∧ ¬ X b) → MutD Rep S D y w w') : Lv Rep w0 w' X D y ∧ Fr (Own9 w0 X) w w' := by
  obtain ⟨S, hr, hS⟩ := h.ex
  obtain ⟨S', hr', hf, hs'⟩ := hm S hr hS
  refine ⟨⟨⟨S', hr', fun b hb => ?_⟩, h.bel.trans (hf.below h.bel.size fun b hb => (hS b hb).1), fun b hb => Nat.lt_of_lt_of_le (h.xlt b hb) hf.size⟩, hf.mono fun b hb => hS b hb⟩
  rcases hs' b hb with q | q
  · exact hS b q
  · exact ⟨Nat.le_trans h.bel.size q, fun hx => by have := h.xlt b hx; omega⟩
theorem Lv.new (K : DrvK Rep) (hb0 : Below w0.heap.size w0 w) (hX : ∀ b, X b → b < w.heap.size) (n : Nat) (h1 : 1 ≤ n) (h2 : n ≤ 600) :
    Calls Try.prog 8 #[.int .i64 (n : Int)] w fun e w' => ∃ D, e = .returned (.pointer (some ⟨D, 0, none⟩)) ∧ Lv Rep w0 w' X D (Dv.new n) ∧ Below w.heap.size w w' := by
  refine (K.new_yes n w h1 h2).mono ?_
  rintro e w' ⟨D, S, rfl, hr, hb, hS⟩
  exact ⟨D, rfl, ⟨⟨S, hr, fun b hb' => ⟨Nat.le_trans hb0.size (hS b hb'), fun hx => by have := hX b hx; have := hS b hb'; omega⟩⟩, hb0.trans (hb.mono hb0.size), fun b hx => Nat.lt_of_lt_of_le (hX b hx) hb.size⟩, hb⟩
theorem Lv.write (K : DrvK Rep) (h : Lv Rep w0 w X D x) (z : Int) (A : Option Addr) (n c : Nat) (l : List UInt8) (h1 : -9223372036854775808 ≤ z) (h2 : z < 9223372036854775808) (hw : x.wait.length ≤ 100000) (hs : Sl w 1 A n c (cells l)) :
    Calls Try.prog 9 #[.pointer (some ⟨D, 0, none⟩), .int .i64 z, .slice A n c] w fun e w' => e = .returned (.int .i64 (x.writeX z l)) ∧ Lv Rep w0 w' X D (x.write z l) ∧ Fr (Own9 w0 X) w w' := by
  obtain ⟨S, hr, hS⟩ := h.ex
  refine (K.write z A n c l h1 h2 hw hr hs).mono ?_
  rintro e w' ⟨rfl, hm⟩
  obtain ⟨S', hr', hf, hs'⟩ := hm
  refine ⟨rfl, ⟨⟨S', hr', fun b hb => ?_⟩, h.bel.trans (hf.below h.bel.size fun b hb => (hS b hb).1), fun b hb => Nat.lt_of_lt_of_le (h.xlt b hb) hf.size⟩, hf.mono fun b hb => hS b hb⟩
  rcases hs' b hb with q | q
  · exact hS b q
  · exact ⟨Nat.le_trans h.bel.size q, fun hx => by have := h.xlt b hx; omega⟩
theorem Lv.of_mut (h : Lv Rep w0 w X D x) {S : Nat → Prop} (hS : ∀ b, S b → w0.heap.size ≤ b ∧ ¬ X b) (hm : MutD Rep S D y w w') : Lv Rep w0 w' X D y ∧ Fr (Own9 w0 X) w w' := by
  obtain ⟨S', hr', hf, hs'⟩ := hm
  refine ⟨⟨⟨S', hr', fun b hb => ?_⟩, h.bel.trans (hf.below h.bel.size fun b hb => (hS b hb).1), fun b hb => Nat.lt_of_lt_of_le (h.xlt b hb) hf.size⟩, hf.mono fun b hb => hS b hb⟩
  rcases hs' b hb with q | q
  · exact hS b q
  · exact ⟨Nat.le_trans h.bel.size q, fun hx => by have := h.xlt b hx; omega⟩
theorem Lv.flush (K : DrvK Rep) (h : Lv Rep w0 w X D x) (hw : x.wait.length ≤ 100000) :
    Calls Try.prog 11 #[.pointer (some ⟨D, 0, none⟩)] w fun e w' => e = .returned (.int .i64 x.flushX) ∧ Lv Rep w0 w' X D x.flush1 ∧ Fr (Own9 w0 X) w w' := by
  obtain ⟨S, hr, hS⟩ := h.ex
  refine (K.flush hw hr).mono ?_
  rintro e w' ⟨rfl, hm⟩
  exact ⟨rfl, h.of_mut hS hm⟩
theorem Lv.crash (K : DrvK Rep) (h : Lv Rep w0 w X D x) (A : Option Addr) (n c : Nat) (ks : List Bool) (hw : x.wait.length ≤ 100000) (hs : Sl w0 1 A n c (bcells ks)) :
    Calls Try.prog 12 #[.pointer (some ⟨D, 0, none⟩), .slice A n c] w fun e w' => e = .returned (.tuple #[]) ∧ Lv Rep w0 w' X D (x.crash ks) ∧ Fr (Own9 w0 X) w w' := by
  obtain ⟨S, hr, hS⟩ := h.ex
  refine (K.crash A n c ks hw hr (hs.below h.bel (Nat.le_refl _)) (fun b o hn he hb => by have := hs.lt (by decide) hn he; have := (hS b hb).1; omega)).mono ?_
  rintro e w' ⟨rfl, hm⟩
  exact ⟨rfl, h.of_mut hS hm⟩
theorem Lv.fail (K : DrvK Rep) (h : Lv Rep w0 w X D x) :
    Calls Try.prog 17 #[.pointer (some ⟨D, 0, none⟩)] w fun e w' => e = .returned (.tuple #[]) ∧ Lv Rep w0 w' X D x.fail ∧ Fr (Own9 w0 X) w w' := by
  obtain ⟨S, hr, hS⟩ := h.ex
  refine (K.fail hr).mono ?_
  rintro e w' ⟨rfl, hm⟩
  exact ⟨rfl, h.of_mut hS hm⟩
theorem Lv.replace (K : DrvK Rep) (h : Lv Rep w0 w X D x) :
    Calls Try.prog 19 #[.pointer (some ⟨D, 0, none⟩)] w fun e w' => e = .returned (.tuple #[]) ∧ Lv Rep w0 w' X D x.replace ∧ Fr (Own9 w0 X) w w' := by
  obtain ⟨S, hr, hS⟩ := h.ex
  refine (K.replace hr).mono ?_
  rintro e w' ⟨rfl, hm⟩
  exact ⟨rfl, h.of_mut hS hm⟩
theorem Lv.rot (K : DrvK Rep) (h : Lv Rep w0 w X D x) (z off : Int) (mask : Nat) (h1 : -9223372036854775808 ≤ z) (h2 : z < 9223372036854775808) (h3 : -9223372036854775808 ≤ off) (h4 : off < 9223372036854775808) (h5 : mask < 4294967296) :
    Calls Try.prog 15 #[.pointer (some ⟨D, 0, none⟩), .int .i64 z, .int .i64 off, .int .u32 (mask : Int)] w fun e w' => e = .returned (.int .i64 (x.rotX z off (mask : Int))) ∧ Lv Rep w0 w' X D (x.rot1 z off (mask : Int)) ∧ Fr (Own9 w0 X) w w' := by
  obtain ⟨S, hr, hS⟩ := h.ex
  refine (K.rot z off mask h1 h2 h3 h4 h5 hr).mono ?_
  rintro e w' ⟨rfl, hm⟩
  exact ⟨rfl, h.of_mut hS hm⟩
theorem Lv.read (K : DrvK Rep) (h : Lv Rep w0 w X D x) (z : Int) (h1 : -9223372036854775808 ≤ z) (h2 : z < 9223372036854775808) (hw : x.wait.length ≤ 100000) :
    Calls Try.prog 13 #[.pointer (some ⟨D, 0, none⟩), .int .i64 z] w fun e w' => ∃ A n c, e = .returned (.tuple #[.slice A n c, .int .i64 (x.readX z)]) ∧ NewB w A n c (x.readL z) w' := by
  obtain ⟨S, hr, hS⟩ := h.ex
  exact K.read z h1 h2 hw hr
theorem Lv.ok (K : DrvK Rep) (h : Lv Rep w0 w X D x) : x.Ok := by
  obtain ⟨S, hr, hS⟩ := h.ex
  exact K.ok hr
theorem Lv.waits (K : DrvK Rep) (h : Lv Rep w0 w X D x) :
    Calls Try.prog 14 #[.pointer (some ⟨D, 0, none⟩)] w fun e w' => e = .returned (.int .i64 (x.wait.length : Int)) ∧ Below w.heap.size w w' := by
  obtain ⟨S, hr, hS⟩ := h.ex
  exact K.waits hr
theorem Lv.sectors (K : DrvK Rep) (h : Lv Rep w0 w X D x) :
    Calls Try.prog 25 #[.pointer (some ⟨D, 0, none⟩)] w fun e w' => e = .returned (.int .i64 (x.n : Int)) ∧ Below w.heap.size w w' := by
  obtain ⟨S, hr, hS⟩ := h.ex
  exact K.sectors hr
theorem Lv.rotten (K : DrvK Rep) (h : Lv Rep w0 w X D x) (z : Int) (h1 : -9223372036854775808 ≤ z) (h2 : z < 9223372036854775808) :
    Calls Try.prog 16 #[.pointer (some ⟨D, 0, none⟩), .int .i64 z] w fun e w' => e = .returned (.bool (x.rottenB z)) ∧ Below w.heap.size w w' := by
  obtain ⟨S, hr, hS⟩ := h.ex
  exact K.rotten z h1 h2 hr
theorem Lv.dead (K : DrvK Rep) (h : Lv Rep w0 w X D x) :
    Calls Try.prog 18 #[.pointer (some ⟨D, 0, none⟩)] w fun e w' => e = .returned (.bool x.gone) ∧ Below w.heap.size w w' := by
  obtain ⟨S, hr, hS⟩ := h.ex
  exact K.dead hr
end

/-- The first bytes of a sector are c. -/
def part9 (c : UInt8) (k : Nat) : List UInt8 := List.replicate k c ++ List.replicate (64 - k) 0
theorem part9_len (c : UInt8) (k : Nat) (h : k ≤ 64) : (part9 c k).length = 64 := by simp [part9]; omega
theorem part9_at (c : UInt8) (k : Nat) (h : k < 64) : (part9 c k)[k]? = some 0 := by
  rw [part9, List.getElem?_append_right (by simp), List.length_replicate, Nat.sub_self, List.getElem?_replicate, if_pos (by omega)]
theorem part9_set (c : UInt8) (k : Nat) (h : k < 64) : (part9 c k).set k c = part9 c (k + 1) := by
  apply List.ext_getElem?
  intro i
  rw [List.getElem?_set]
  by_cases hi : k = i
  · subst hi
    rw [if_pos rfl, if_pos (by rw [part9_len c k (by omega)]; exact h), part9, List.getElem?_append_left (by simp), List.getElem?_replicate, if_pos (by omega)]
  · rw [if_neg hi]
    rcases Nat.lt_or_ge i k with h1 | h1
    · rw [part9, part9, List.getElem?_append_left (by simpa using h1), List.getElem?_append_left (by simp; omega), List.getElem?_replicate, List.getElem?_replicate, if_pos h1, if_pos (by omega)]
    · rw [part9, part9, List.getElem?_append_right (by simpa using h1), List.getElem?_append_right (by simp; omega)]
      simp only [List.length_replicate, List.getElem?_replicate]
      by_cases h2 : i < 64
      · rw [if_pos (by omega), if_pos (by omega)]
      · rw [if_neg (by omega), if_neg (by omega)]
set_option maxRecDepth 20000 in
set_option maxHeartbeats 800000 in
theorem full_any (c : UInt8) (w : World) : Calls Try.prog 10 #[.int .u8 (c.toNat : Int)] w (RetMine w.heap.size w (full c)) := by
  have hmk := make_eq (64 : Int) 64 rfl (by omega)
  go_enter Try.func10, Try.ntmps10
  go_wp2_with fail
  clear hmk
  go_loopw [4] (fun i wr => ∃ k : Nat, k ≤ 64 ∧ i = .int .i64 (k : Int) ∧ Mine wr w.heap.size 5 (some ⟨w.heap.size, 0, none⟩) 64 (cells (part9 c k)) ∧ Below w.heap.size w wr) (fun i _ => 64 - (intOf i).toNat)
  case atStart => exact ⟨0, by omega, rfl, Mine.noughts w 64, (Below.refl _ _).alloc (Nat.le_refl _) _⟩
  case round =>
    obtain ⟨k, hk, rfl, hm, hb⟩ := hrel
    by_cases hlt : k < 64
    · obtain ⟨g, hg, hB, hc, hz⟩ := hm.at_ hlt (part9_at c k hlt)
      injection hg with hg
      injection hg with hg _
      subst hg
      have hset := hm.set hlt c
      rw [part9_set c k hlt] at hset
      have Hset := Lib.hid hset
      have Hm := Lib.hid hm
      clear hset hm
      have hki : (k : Int) < 64 := by omega
      go_wp2_with fail
      go_roundw
      case rel => exact ⟨k + 1, by omega, by go_num, Hset.out, hb.setCell (Nat.le_refl _) _⟩
      case measure => simp [intOf]; omega
    · obtain rfl : k = 64 := by omega
      have Hm := Lib.hid hm
      clear hm
      go_wp2_with fail
      go_ret
      have hm := Hm.out
      exact ⟨_, _, _, rfl, hm.sl (part9_len c 64 (Nat.le_refl _)) (Nat.le_refl _) (by decide), hb, hm⟩
end Go.Proofs.Ytmlmlmlbdjhfhaa

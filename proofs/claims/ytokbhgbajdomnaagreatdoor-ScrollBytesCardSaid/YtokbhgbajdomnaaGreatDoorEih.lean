/-
  Contracts of slices.Grow and slices.Concat over bytes, of package scroll's name whatever the place, and of PutBytes. Conditions: bounds.
-/
import Derived.Test.YtokbhgbajdomnaaGreatDoorEid
import Derived.Test.YtokbhgbajdomnaaGreatDoorLc
set_option linter.unusedVariables false
set_option maxRecDepth 20000
set_option maxHeartbeats 1600000
namespace Go.Proofs.YtokbhgbajdomnaaGreatDoor
open Go.RowKit Go.Proofs
theorem own_none16 {w : World} {B n c : Nat} {T : TypeId} {A : Option Addr} {xs : List Value} (h : w.ownsRow B T 1 (.slice A n c) n xs) (hn : 0 < n) : Own w B T 1 A 0 c [] := by
 rcases h.2 with ⟨hv, h0⟩ | ⟨g, cap, cur, hv, hb, hg, hnc, hcm, hcs, ht⟩
 ·omega
 ·injection hv with e1 e2 e3
  subst e1 e3
  exact ⟨⟨rfl, Nat.zero_le _, by omega, fun j u hu => by simp at hu⟩, .inr ⟨rfl, .inr ⟨g, c, cur, rfl, hb, hg, Nat.zero_le _, hcm, hcs, rfl⟩⟩⟩
theorem wpList_append_nb16 {w : World} {B : Nat} {ops : Array Oper} {rest : List Oper} {o : Oper} {a : Act} {Q : Exit → Act → World → Prop} (hgd : o.guard = none) (s x : Operand)
  (ho : o.op = .call { callee := .builtin .append, args := #[s, x], argTypes := #[40, 3] })
  (hv : a.eval s = .slice none 0 0) (hB : B ≤ w.heap.size) (k : Nat) (hx : a.eval x = .int .i64 (k : Int)) (hk0 : 0 < k) (hk1 : k ≤ 1000000)
  (hk : ∀ A' c' w', Own w' B 5 1 A' 0 c' [] → k ≤ c' → c' ≤ maxLen → Below B w w' → wpList Tryz.prog ops Q rest (a.put o.dst (.slice A' k c')) w') : wpList Tryz.prog ops Q (o :: rest) a w := by
 obtain ⟨i0, hi, hz0, hz1, hz2⟩ := info_parts info_u8
 have hs := Src.ofString (P := Tryz.prog) w Tryz.underlying9 (bstr (List.replicate k 0))
 have hsz : (bstr (List.replicate k 0)).size = k := by rw [bstr_size, List.length_replicate]
 rw [hsz] at hs
 obtain ⟨A', c', w', hr, h2, h3, h4⟩ := run_append_mine (P := Tryz.prog) 40 9 o.type i0 (.int .u8 0) 1 Tryz.underlying40 hi hz0 hz1 hz2 rfl (by decide) (Own.full (B := B) (Sl.nil w 1 0 (by decide))) hB (.string (bstr (List.replicate k 0))) k (cells (bstr (List.replicate k 0)).data.toList) hs (by unfold maxLen; omega) (by omega)
 rw [← append_noughts (ti := 3) Tryz.underlying40 Tryz.underlying3 Tryz.underlying9 hi hz0 hz1 hz2 none 0 0 k hk0 hk1 (by decide) w] at hr
 refine wpList_plain hgd fun _ hK => ?_
 unfold Oper.wp execOp
 simp only [ho, resolve, invoke, builtin, Sem.run_bind, Sem.run_pure, Result.andThen_ok, List.map_toArray, List.map_cons, List.map_nil, hv, hx, hr]
 have h5 := h4 hk0
 rw [Nat.zero_add] at h5 h2 ⊢
 exact hK _ _ (hk A' c' w' (own_none16 h5 hk0) h2.sl.cap h2.sl.top h3)
theorem grow16 (k : Nat) (hk0 : 0 < k) (hk1 : k ≤ 1000000) (w : World) :
  Calls Tryz.prog 122 #[.slice none 0 0, .int .i64 (k : Int)] w fun e w' => ∃ A' c', e = .returned (.slice A' 0 c') ∧ Own w' w.heap.size 5 1 A' 0 c' [] ∧ Below w.heap.size w w' := by
 have h1 : ¬ (k : Int) < 0 := by omega
 have h2 : (0 : Int) < (k : Int) := by omega
 go_enter Tryz.func122, Tryz.ntmps122
 go_wp2_with (at_builtin; refine wpList_append_nb16 (B := w.heap.size) rfl (.tmp 20) (.tmp 21) rfl rfl (Nat.le_refl _) k rfl hk0 hk1 ?_)
 intro A' c' w1 ho hc hm hb
 have HO := qH ho
 have HB := qH hb
 unfold maxLen at hm
 clear ho hb
 go_wp2_with fail
 go_ret
 exact ⟨A', c', rfl, HO.out, HB.out⟩
theorem concat16 (G : Nat) (A A2 : Option Addr) (n c n2 c2 : Nat) (l l2 : List UInt8) (w : World) (hg0 : w.cell? ⟨G, 0, none⟩ = some (.slice A n c)) (hg1 : w.cell? ⟨G, 1, none⟩ = some (.slice A2 n2 c2)) (h : Sl w 1 A n c (cells l)) (h2 : Sl w 1 A2 n2 c2 (cells l2)) (hn : n ≤ 100000) (hn2 : n2 ≤ 100000) (h0 : 0 < n2) :
  Calls Tryz.prog 79 #[.slice (some ⟨G, 0, none⟩) 2 2] w (RetBytes w.heap.size w (l ++ l2)) := by
 have HG0 := qH hg0
 have HG1 := qH hg1
 have HL := qH h
 have HL2 := qH h2
 have HGL := qH (World.block_lt_of_cell? w _ hg0)
 obtain ⟨t, ht⟩ : ∃ t, t = n + n2 := ⟨_, rfl⟩
 have HT := qH ht
 have hgr := grow16 t (by omega) (by omega)
 clear h h2 ht
 go_enter Tryz.func79, Tryz.ntmps79
 go_wp2_with fail
 go_loopw [3, 11] (fun v iv wr => wr = w ∧ ((v = .int .i64 0 ∧ iv = .int .i64 0) ∨ (v = .int .i64 (n : Int) ∧ iv = .int .i64 1) ∨ (v = .int .i64 (t : Int) ∧ iv = .int .i64 2))) (fun _ iv _ => 2 - (intOf iv).toNat)
 case atStart => exact ⟨rfl, .inl ⟨rfl, rfl⟩⟩
 case round =>
  obtain ⟨hwr, ⟨rfl, rfl⟩ | ⟨rfl, rfl⟩ | ⟨rfl, rfl⟩⟩ := hrel
  ·obtain rfl : w = wr := hwr.symm
   have hc := HG0.out
   have q1 : ¬ (n : Int) < 0 := by omega
   go_wp2_with fail
   go_roundw
   case rel => exact ⟨trivial, .inr (.inl ⟨by first | rfl | go_num, by first | rfl | go_num⟩)⟩
   case measure => simp [intOf]
  ·obtain rfl : w = wr := hwr.symm
   have hc := HG1.out
   have q1 : ¬ (n : Int) + (n2 : Int) < 0 := by omega
   go_wp2_with fail
   go_roundw
   case rel => exact ⟨trivial, .inr (.inr ⟨by first | rfl | (congr 1; have := HT.out; omega) | go_num, by first | rfl | go_num⟩)⟩
   case measure => simp [intOf]
  ·obtain rfl : w = wr := hwr.symm
   go_wp2_with fail
   refine (hgr w).mono ?_; clear hgr; rintro e w1 ⟨A3, c3, rfl, ho, hb⟩
   have HO := qH ho
   have HB := qH hb
   clear ho hb
   go_wp2_with fail
   go_loopw [6, 27] (fun v iv wq => ∃ (A4 : Option Addr) (n4 c4 : Nat) (l4 : List UInt8), v = .slice A4 n4 c4 ∧ Own wq w.heap.size 5 1 A4 n4 c4 (cells l4) ∧ Below w.heap.size w wq ∧ n4 = l4.length ∧ ((iv = .int .i64 0 ∧ l4 = []) ∨ (iv = .int .i64 1 ∧ l4 = l) ∨ (iv = .int .i64 2 ∧ l4 = l ++ l2))) (fun _ iv _ => 2 - (intOf iv).toNat)
   case atStart => exact ⟨A3, 0, c3, [], rfl, HO.out, HB.out, rfl, .inl ⟨rfl, rfl⟩⟩
   case round =>
    obtain ⟨A4, n4, c4, l4, rfl, ho4, hb4, hn4, hcase⟩ := hrel
    have HO4 := qH ho4
    have HB4 := qH hb4
    have HN4 := qH hn4
    have hll := HL.out.len
    have hl2 := HL2.out.len
    rw [cells_length] at hll hl2
    have HLL := qH hll
    have HL3 := qH hl2
    clear ho4 hb4 hn4 hll hl2
    rcases hcase with ⟨rfl, rfl⟩ | ⟨rfl, rfl⟩ | ⟨rfl, rfl⟩
    ·have hc : wr.cell? ⟨G, 0, none⟩ = some (.slice A n c) := (HB4.out.cell HGL.out).trans HG0.out
     go_wp2_with (at_builtin; refine wpList_append_b (B := w.heap.size) rfl (.tmp 31) (.tmp 32) rfl rfl HO4.out HB4.out.size A n c l rfl (HL.out.below HB4.out (Nat.le_refl _)) (by have := HN4.out; simp at this; omega) ?_)
     intro A5 c5 w5 ho5 hb5
     have HO5 := qH ho5
     have HB5 := qH (HB4.out.trans hb5)
     clear ho5 hb5 hc
     go_wp2_with fail
     go_roundw
     case rel => exact ⟨A5, _, c5, l, rfl, by have := HO5.out; simpa [cells] using this, HB5.out, by have := HN4.out; have := HLL.out; simp at *; omega, .inr (.inl ⟨by first | rfl | go_num, rfl⟩)⟩
     case measure => simp [intOf]
    ·have hc : wr.cell? ⟨G, 1, none⟩ = some (.slice A2 n2 c2) := (HB4.out.cell HGL.out).trans HG1.out
     go_wp2_with (at_builtin; refine wpList_append_b (B := w.heap.size) rfl (.tmp 31) (.tmp 32) rfl rfl HO4.out HB4.out.size A2 n2 c2 l2 rfl (HL2.out.below HB4.out (Nat.le_refl _)) (by have := HN4.out; have := HLL.out; omega) ?_)
     intro A5 c5 w5 ho5 hb5
     have HO5 := qH ho5
     have HB5 := qH (HB4.out.trans hb5)
     clear ho5 hb5 hc
     go_wp2_with fail
     go_roundw
     case rel => exact ⟨A5, _, c5, l4 ++ l2, rfl, by rw [cells_append]; exact HO5.out, HB5.out, by have := HN4.out; have := HL3.out; rw [List.length_append]; omega, .inr (.inr ⟨by first | rfl | go_num, rfl⟩)⟩
     case measure => simp [intOf]
    ·go_wp2_with fail
     go_ret
     exact ⟨A4, n4, c4, rfl, HO4.out.sl, HB4.out⟩
def u64N (z : Int) : Nat := (z % 18446744073709551616).toNat
theorem u64N_lt (z : Int) : u64N z < 18446744073709551616 := by unfold u64N; omega
theorem run_cvz16 (z : Int) (w : World) : (convert 3 36 (.int .i64 z)).run Tryz.prog w = .ok (.int .u64 (u64N z : Nat)) w := by
 have e : IntKind.u64.wrap z = ((u64N z : Nat) : Int) := by rw [IntKind.wrap_u64]; unfold u64N; omega
 simp [convert, go_sem, e]
theorem nameZ16 (z : Int) (g : Nat) (hg : g < 18446744073709551616) (w : World) :
  Calls Tryz.prog 77 #[.int .i64 z, .int .u64 (g : Int)] w fun e w' => ∃ A', e = .returned (.slice A' 10 10) ∧ Sl w' 1 A' 10 10 (cells (nameL (u64N z) g)) ∧ Below w.heap.size w w' := by
 have hcv := fun W => run_cvz16 z W
 have hlt := u64N_lt z
 obtain ⟨p, hp⟩ : ∃ p, p = u64N z := ⟨_, rfl⟩
 rw [← hp] at hcv hlt ⊢
 have h1 := put_mine none 0 0 [] 2 p w (Sl.nil w 1 0 (by decide)) (by decide) (by decide) (by decide) hlt
 clear hp
 go_enter Tryz.func77, Tryz.ntmps77
 go_wp2_with fail
 refine h1.mono ?_; clear h1; rintro e w1 ⟨A1, rfl, hs, hm, hb⟩
 have h2 := put_mine A1 (0 + 2) (0 + 2) ([] ++ le 2 p) 8 g w1 hs (by decide) (by decide) (by decide) hg
 have HB := qH hb
 clear hs hm hb
 go_wp2_with fail
 refine h2.mono ?_; clear h2; rintro e w2 ⟨A2, rfl, hs, -, hb⟩
 rw [show ([] ++ le 2 p) ++ le 8 g = nameL p g from rfl] at hs
 have HS := qH hs
 have HB2 := qH (HB.out.trans (hb.mono HB.out.size))
 clear hs hb
 go_wp2_with fail
 go_ret
 exact ⟨A2, rfl, HS.out, HB2.out⟩
def scB (a : Int) (g : Nat) (c z : Int) : List UInt8 := nameL (u64N a) g ++ le 2 (u64N c) ++ le 4 (u64N z)
theorem putBytes16 (A : Option Addr) (n c : Nat) (l : List UInt8) (a : Int) (g : Nat) (hg : g < 18446744073709551616) (cn z : Int) (w : World) (h : Sl w 1 A n c (cells l)) (hn : n ≤ 100000) :
  Calls Tryz.prog 32 #[.slice A n c, .agg #[.int .i64 a, .int .u64 (g : Int), .int .i64 cn, .int .i64 z]] w (RetBytes w.heap.size w (l ++ scB a g cn z)) := by
 have hx := Sc16.new (w := w) (a := a) (g := (g : Int)) (c := cn) (z := z)
 have hb : Below w.heap.size w (w.alloc (.cells #[.int .i64 a, .int .u64 (g : Int), .int .i64 cn, .int .i64 z] 38)) := (Below.refl _ _).alloc (Nat.le_refl _) _
 have hcv := fun W => run_cvz16 cn W
 have hcz := fun W => run_cvz16 z W
 have hl1 := u64N_lt cn
 have hl2 := u64N_lt z
 unfold scB
 obtain ⟨p, hp⟩ : ∃ p, p = u64N cn := ⟨_, rfl⟩
 obtain ⟨q, hq⟩ : ∃ q, q = u64N z := ⟨_, rfl⟩
 rw [← hp] at hcv hl1 ⊢
 rw [← hq] at hcz hl2 ⊢
 have HL := qH h
 have HX := qH hx
 have HB := qH hb
 have HCZ := qH hcz
 have HCV := qH hcv
 have c0 := hx.c0
 have c1 := hx.c1
 clear h hx hb hp hq hcz hcv
 go_enter Tryz.func32, Tryz.ntmps32
 go_wp2_with fail
 refine (nameZ16 a g hg _).mono ?_; rintro e w1 ⟨A1, rfl, hs, hb⟩
 have X1 := qH (HX.out.later hb)
 have B1 := qH (HB.out.trans (hb.mono HB.out.size))
 have h2 := put_mine A1 10 10 _ 2 p w1 hs (by decide) (by decide) (by decide) hl1
 have c2 := X1.out.c2
 have hcv := HCV.out
 obtain ⟨B, hBB⟩ : ∃ B, B = w.heap.size := ⟨_, rfl⟩
 rw [← hBB] at X1 c2 ⊢
 have HBB := qH hBB
 clear hs hb c0 c1 hBB
 go_wp2_with fail
 refine h2.mono ?_; clear h2 hcv; rintro e w2 ⟨A2, rfl, hs, -, hb⟩
 have X2 := qH (X1.out.later hb)
 have B2 := qH (B1.out.trans (hb.mono B1.out.size))
 have h3 := put_mine A2 (10 + 2) (10 + 2) _ 4 q w2 hs (by decide) (by decide) (by decide) hl2
 have c3 := X2.out.c3
 have hcz := HCZ.out
 clear hs hb c2
 go_wp2_with fail
 refine h3.mono ?_; clear h3 hcz; rintro e w3 ⟨A3, rfl, hs, -, hb⟩
 have B3 := qH (B2.out.trans (hb.mono B2.out.size))
 have S3 := qH hs
 clear hs hb c3
 have hb4 : Below w3.heap.size w3 (w3.alloc (.cells #[.slice A n c, .slice A3 16 16] 40)) := (Below.refl _ _).alloc (Nat.le_refl _) _
 have hg := heap_alloc_new w3 (.cells #[.slice A n c, .slice A3 16 16] 40)
 go_wp2_with fail
 obtain ⟨w4, hw4⟩ : ∃ x, x = w3.alloc (.cells #[.slice A n c, .slice A3 16 16] 40) := ⟨_, rfl⟩
 rw [← hw4] at hb4 hg ⊢
 clear hw4
 have B4 := qH (B3.out.trans (hb4.mono B3.out.size))
 refine (concat16 w3.heap.size A A3 n c 16 16 l _ w4 (by rw [cell_of_row _ _ _ _ _ _ hg]; rfl) (by rw [cell_of_row _ _ _ _ _ _ hg]; rfl) (HL.out.below (HBB.out ▸ B4.out) (by rw [HBB.out]; exact Nat.le_refl _)) (S3.out.below hb4 (Nat.le_refl _)) hn (by decide) (by decide)).mono ?_
 rintro e w5 ⟨A5, n5, c5, rfl, hs5, hb5⟩
 have S5 := qH hs5
 have B5 := qH (B4.out.trans (hb5.mono B4.out.size))
 clear hs5 hb5 hg hb4
 go_wp2_with fail
 go_ret
 exact ⟨A5, n5, c5, rfl, S5.out, HBB.out ▸ B5.out⟩
end Go.Proofs.YtokbhgbajdomnaaGreatDoor

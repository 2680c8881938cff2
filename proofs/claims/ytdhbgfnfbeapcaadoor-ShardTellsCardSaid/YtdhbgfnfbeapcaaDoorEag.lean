/-
  Package shard's Put. Condition: the table reads as the row lists it ('Nt'). (Its end written by gen_eag.py.)
-/
import Derived.Test.YtdhbgfnfbeapcaaDoorEaf
namespace Go.Proofs.YtdhbgfnfbeapcaaDoor
open Go.RowKit Go.Proofs
set_option linter.unusedVariables false

set_option maxRecDepth 20000
set_option maxHeartbeats 800000
/-- A guard for walks: the operation that comes next writes slot d. -/
theorem at_dst11 {P : Program} {ops : Array Oper} {Q : Exit → Act → World → Prop} {d : Nat} {op : Op} {ty : TypeId} {pos : String} {af : Array Edge} {gd : Option (Tmp × Bool)} {rest : List Oper} {a : Act} {w : World} (h : wpList P ops Q (⟨some d, op, ty, pos, af, gd⟩ :: rest) a w) : wpList P ops Q (⟨some d, op, ty, pos, af, gd⟩ :: rest) a w := h
theorem number_at (b1 b2 m x : Nat) (f : Bool) (l : List UInt8) (w : World) (h : Pz w b1 b2 f l) (hl : l.length ≤ 1000) (hm1 : 1 ≤ m) (hm8 : m ≤ 8) (hx : x < 2 ^ 64) (k z : Int) (hk : k = (m : Int)) (hz : z = (x : Int)) :
    Calls Tryd.prog 25 #[.int .i64 k, .int .u64 z, .pointer (some ⟨b2, 0, none⟩)] w (RetPz b1 b2 true (l ++ le m x) w) := by
  subst hk hz
  exact number_any b1 b2 m x f l w h hl hm1 hm8 hx
theorem putters_any (b1 : Nat) (w : World) : Calls Tryd.prog 19 #[.pointer (some ⟨b1, 0, none⟩)] w fun e w' => e = .returned (.tuple #[.func (.func 25) #[] #[.pointer (some ⟨w.heap.size, 0, none⟩)], .func (.func 27) #[] #[.pointer (some ⟨w.heap.size, 0, none⟩)]]) ∧ w' = w.alloc (.cells #[.pointer (some ⟨b1, 0, none⟩)] 59) := by
  go_enter Tryd.func19, Tryd.ntmps19
  go_wp2_with fail
  go_ret2
  exact ⟨rfl, rfl⟩
theorem sput_no (s : Sh) (hk : s.kn = false) (w : World) : Calls Tryd.prog 8 #[.agg s.cs.toArray] w fun e w' => e = .returned (.tuple #[.slice none 0 0, .int .i64 2]) ∧ Below w.heap.size w w' := by
  have hb : Below w.heap.size w (w.alloc (.cells s.cs.toArray 26)) := (Below.refl _ _).alloc (Nat.le_refl _) _
  have ck := (ShB.new w s).k
  have Hb := Lib.hid hb; clear hb
  have hh := known_any s.kind (w.alloc (.cells s.cs.toArray 26))
  rw [show (decide (1 ≤ s.kind.toNat) && decide (s.kind.toNat ≤ 4)) = false from hk] at hh
  go_enter Tryd.func8, Tryd.ntmps8
  go_wp2_with fail
  refine hh.mono ?_; clear hh; rintro e w1 ⟨rfl, rfl⟩
  go_wp2_with fail
  go_ret2
  exact ⟨rfl, Hb.out⟩
theorem sput_yes (s : Sh) (hs : s.Ok) (hk : s.kn = true) (w : World) (hN : Nt w) : Calls Tryd.prog 8 #[.agg s.cs.toArray] w fun e w' => ∃ A, e = .returned (.tuple #[.slice A 64 64, .int .i64 0]) ∧ Sl w' 1 A 64 64 (cells s.sector) ∧ Mine w' w.heap.size 5 A 64 (cells s.sector) ∧ Below w.heap.size w w' := by
  obtain ⟨w0, hw0⟩ : ∃ w0, w0 = w.alloc (.cells s.cs.toArray 26) := ⟨_, rfl⟩
  have hb0 : Below w.heap.size w w0 := by rw [hw0]; exact (Below.refl _ _).alloc (Nat.le_refl _) _
  have hS0 : ShB w0 w.heap.size s := by rw [hw0]; exact ShB.new w s
  have hz0 : w0.heap.size = w.heap.size + 1 := by rw [hw0]; simp
  have hh := known_any s.kind w0
  rw [show (decide (1 ≤ s.kind.toNat) && decide (s.kind.toNat ≤ 4)) = true from hk] at hh
  have ck := hS0.k
  have Hw0 := Lib.hid hw0
  have Hz0 := Lib.hid hz0
  have HB0 := Lib.hid hb0
  have HS0 := Lib.hid hS0
  have HOK := Lib.hid hs
  have HN := Lib.hid hN
  have lk := s.kind.toNat_lt
  have li := s.idx.toNat_lt
  have lp := hs.place
  have lg := hs.gen
  have lz := hs.size
  clear hw0 hS0 hk hb0 hz0 hs hN
  go_enter Tryd.func8, Tryd.ntmps8
  go_wp2_with (rw [← Hw0.out])
  refine hh.mono ?_; clear hh; rintro e w' ⟨rfl, hw'⟩
  obtain rfl : w0 = w' := hw'
  go_wp2_with fail
  refine (putters_any _ _).mono ?_; rintro e w1 ⟨rfl, hw1⟩
  have hP : Pz w1 w0.heap.size (w0.heap.size + 1) true [] := by
    rw [hw1]
    refine ⟨?_, by omega, none, 0, ?_, Sl.nil _ _ _ (by decide), fun h => absurd h (by decide), fun _ => rfl⟩
    · have := heap_alloc_new (w0.alloc (.cells #[.slice none 0 0] 27)) (.cells #[.pointer (some ⟨w0.heap.size, 0, none⟩)] 59)
      simpa using this
    · exact (Below.heap_alloc _ _ _ (by simp)).trans (heap_alloc_new w0 _)
  have hb01 : Below w0.heap.size w0 w1 := by rw [hw1]; exact ((Below.refl _ _).alloc (Nat.le_refl _) _).alloc (by simp) _
  have hne : ¬ (w.heap.size = w0.heap.size) := by have := Hz0.out; omega
  have S1 := Lib.hid (HS0.out.later hb01)
  have P1 := Lib.hid hP
  have Q1 := Lib.hid (HB0.out.trans (hb01.mono (by have := Hz0.out; omega)))
  have L1 : ([] : List UInt8).length = 0 := rfl
  have NE := Lib.hid hne
  have hc := S1.out.k
  clear hw1 ck hP hb01 hne
  go_wp2_with fail
  refine (number_at w0.heap.size (w0.heap.size + 1) 1 s.kind.toNat _ [] w1 P1.out (by rw [L1]; decide) (by decide) (by decide) (by omega) _ _ rfl ?z1).mono ?_
  case z1 => first | rfl | omega
  rintro e w2 ⟨rfl, hz, hf⟩
  obtain ⟨l2, el2⟩ : ∃ v, v = [] ++ le 1 s.kind.toNat := ⟨_, rfl⟩
  rw [← el2] at hz
  have L2 : l2.length = 1 := by rw [el2, List.length_append, le_length, L1]
  have P2 := Lib.hid hz
  have S2 := Lib.hid (S1.out.fr hf NE.out)
  have Q2 := Lib.hid (Q1.out.trans (hf.below (by have := Q1.out.size; omega) (fun b hb => by have h1 : b = w0.heap.size := hb; have := Hz0.out; omega)))
  have N2 := Lib.hid el2
  clear hz hf hc L1 el2
  have hc := S2.out.i
  go_wp2_with fail
  refine (number_at w0.heap.size (w0.heap.size + 1) 1 s.idx.toNat _ l2 w2 P2.out (by rw [L2]; decide) (by decide) (by decide) (by omega) _ _ rfl ?z2).mono ?_
  case z2 => first | rfl | omega
  rintro e w3 ⟨rfl, hz, hf⟩
  obtain ⟨l3, el3⟩ : ∃ v, v = l2 ++ le 1 s.idx.toNat := ⟨_, rfl⟩
  rw [← el3] at hz
  have L3 : l3.length = 2 := by rw [el3, List.length_append, le_length, L2]
  have P3 := Lib.hid hz
  have S3 := Lib.hid (S2.out.fr hf NE.out)
  have Q3 := Lib.hid (Q2.out.trans (hf.below (by have := Q2.out.size; omega) (fun b hb => by have h1 : b = w0.heap.size := hb; have := Hz0.out; omega)))
  have N3 := Lib.hid el3
  clear hz hf hc L2 el3
  have hc := S3.out.p
  go_wp2_with fail
  refine (number_at w0.heap.size (w0.heap.size + 1) 2 s.place _ l3 w3 P3.out (by rw [L3]; decide) (by decide) (by decide) (by omega) _ _ rfl ?z3).mono ?_
  case z3 => first | rfl | omega
  rintro e w4 ⟨rfl, hz, hf⟩
  obtain ⟨l4, el4⟩ : ∃ v, v = l3 ++ le 2 s.place := ⟨_, rfl⟩
  rw [← el4] at hz
  have L4 : l4.length = 4 := by rw [el4, List.length_append, le_length, L3]
  have P4 := Lib.hid hz
  have S4 := Lib.hid (S3.out.fr hf NE.out)
  have Q4 := Lib.hid (Q3.out.trans (hf.below (by have := Q3.out.size; omega) (fun b hb => by have h1 : b = w0.heap.size := hb; have := Hz0.out; omega)))
  have N4 := Lib.hid el4
  clear hz hf hc L3 el4
  have hc := S4.out.g
  go_wp2_with fail
  refine (number_at w0.heap.size (w0.heap.size + 1) 8 s.gen _ l4 w4 P4.out (by rw [L4]; decide) (by decide) (by decide) (by omega) _ _ rfl ?z4).mono ?_
  case z4 => first | rfl | omega
  rintro e w5 ⟨rfl, hz, hf⟩
  obtain ⟨l5, el5⟩ : ∃ v, v = l4 ++ le 8 s.gen := ⟨_, rfl⟩
  rw [← el5] at hz
  have L5 : l5.length = 12 := by rw [el5, List.length_append, le_length, L4]
  have P5 := Lib.hid hz
  have S5 := Lib.hid (S4.out.fr hf NE.out)
  have Q5 := Lib.hid (Q4.out.trans (hf.below (by have := Q4.out.size; omega) (fun b hb => by have h1 : b = w0.heap.size := hb; have := Hz0.out; omega)))
  have N5 := Lib.hid el5
  clear hz hf hc L4 el5
  have hc := S5.out.z
  go_wp2_with fail
  refine (number_at w0.heap.size (w0.heap.size + 1) 2 s.size _ l5 w5 P5.out (by rw [L5]; decide) (by decide) (by decide) (by omega) _ _ rfl ?z5).mono ?_
  case z5 => first | rfl | omega
  rintro e w6 ⟨rfl, hz, hf⟩
  obtain ⟨l6, el6⟩ : ∃ v, v = l5 ++ le 2 s.size := ⟨_, rfl⟩
  rw [← el6] at hz
  have L6 : l6.length = 14 := by rw [el6, List.length_append, le_length, L5]
  have P6 := Lib.hid hz
  have S6 := Lib.hid (S5.out.fr hf NE.out)
  have Q6 := Lib.hid (Q5.out.trans (hf.below (by have := Q5.out.size; omega) (fun b hb => by have h1 : b = w0.heap.size := hb; have := Hz0.out; omega)))
  have N6 := Lib.hid el6
  clear hz hf hc L5 el6
  have hc := S6.out.k
  go_wp2_with fail
  refine (number_at w0.heap.size (w0.heap.size + 1) 2 0 _ l6 w6 P6.out (by rw [L6]; decide) (by decide) (by decide) (by omega) _ _ rfl ?z6).mono ?_
  case z6 => first | rfl | omega
  rintro e w7 ⟨rfl, hz, hf⟩
  obtain ⟨l7, el7⟩ : ∃ v, v = l6 ++ le 2 0 := ⟨_, rfl⟩
  rw [← el7] at hz
  have L7 : l7.length = 16 := by rw [el7, List.length_append, le_length, L6]
  have P7 := Lib.hid hz
  have S7 := Lib.hid (S6.out.fr hf NE.out)
  have Q7 := Lib.hid (Q6.out.trans (hf.below (by have := Q6.out.size; omega) (fun b hb => by have h1 : b = w0.heap.size := hb; have := Hz0.out; omega)))
  have N7 := Lib.hid el7
  clear hz hf hc L6 el7
  have hc := S7.out.text
  have hsz := size_b44l s.body
  go_wp2_with (refine at_dst11 (d := 43) ?_; refine wpList_load_mid (op := ⟨some 43, _, _, _, _, _⟩) rfl 24 (.tmp 42) rfl w.heap.size 5 rfl (cells (pad44 s.body)) _ hc Tryd.underlying24 rfl hsz ?_)
  clear hsz
  refine (body_any w0.heap.size (w0.heap.size + 1) s.body l7 w7 P7.out (by rw [L7]; decide)).mono ?_
  rintro e w8 ⟨rfl, hz, hf⟩
  obtain ⟨l8, el8⟩ : ∃ v, v = l7 ++ pad44 s.body := ⟨_, rfl⟩
  rw [← el8] at hz
  have L8 : l8.length = 60 := by rw [el8, List.length_append, pad44_len, L7]
  have P8 := Lib.hid hz
  have S8 := Lib.hid (S7.out.fr hf NE.out)
  have Q8 := Lib.hid (Q7.out.trans (hf.below (by have := Q7.out.size; omega) (fun b hb => by have h1 : b = w0.heap.size := hb; have := Hz0.out; omega)))
  have N8 := Lib.hid el8
  clear hz hf hc L7 el8
  obtain ⟨A8, c8, hv8, hs8, hm8, -⟩ := P8.out.v
  have hc : w8.cell? ⟨w0.heap.size, 0, none⟩ = some (.slice A8 60 c8) := by rw [cell_of_row _ _ _ _ _ _ hv8, L8]; rfl
  rw [L8] at hs8
  have hs := sum_any A8 60 c8 l8 w8 hs8 (HN.out.keep Q8.out)
  have e8 : l8 = s.head := by
    rw [N8.out, N7.out, N6.out, N5.out, N4.out, N3.out, N2.out, le_one, le_one, pad44_eq HOK.out.body, Sh.head]
    rfl
  have E8 := Lib.hid e8
  clear hv8 hs8 hm8 e8
  go_wp2_with fail
  refine hs.mono ?_; clear hs; rintro e wS ⟨rfl, hbS⟩
  have PS := Lib.hid (P8.out.later hbS)
  have QS := Lib.hid (Q8.out.trans (hbS.mono Q8.out.size))
  clear hbS hc
  have hlt := sumOf_lt l8
  have hsu : (more 0 l8).toNat = sumOf l8 := rfl
  rw [hsu]
  clear hsu
  go_wp2_with fail
  refine (number_at w0.heap.size (w0.heap.size + 1) 4 (sumOf l8) _ l8 wS PS.out (by rw [L8]; decide) (by decide) (by decide) (by omega) _ _ rfl ?z8).mono ?_
  case z8 => first | rfl | omega
  rintro e w9 ⟨rfl, hz, hf⟩
  have hsec : l8 ++ le 4 (sumOf l8) = s.sector := by rw [Sh.sector, closed, E8.out]
  rw [hsec] at hz
  have Q9 := Lib.hid (QS.out.trans (hf.below (by have := QS.out.size; omega) (fun b hb => by have h1 : b = w0.heap.size := hb; have := Hz0.out; omega)))
  have hl := HOK.out.sector_len
  obtain ⟨A9, c9, hv9, hs9, hm9, hf9⟩ := hz.v
  obtain rfl := hf9 rfl
  rw [hl] at hv9 hs9 hm9
  have hc2 : w9.cell? ⟨w0.heap.size, 0, none⟩ = some (.slice A9 64 64) := by rw [cell_of_row _ _ _ _ _ _ hv9]; rfl
  have K1 := Lib.hid hs9
  have K2 := Lib.hid (hm9.lower (B' := w.heap.size) (by have := Hz0.out; omega))
  clear hz hf hv9 hs9 hm9 hl hsec hf9 L8 hlt
  go_wp2_with fail
  go_ret2
  exact ⟨A9, rfl, K1.out, K2.out, Q9.out⟩
end Go.Proofs.YtdhbgfnfbeapcaaDoor

/-
  Contracts of package stripe's maker, of the function that it answers, and of write, whatever function is handed in. Condition: the array and the coder are ones that New made; bounds. (Written by gen_edf.py.)
-/
import Derived.Test.YtajdholblmdnjaaGreatDoorEde
set_option linter.unusedVariables false
set_option maxRecDepth 100000
set_option maxHeartbeats 3200000
namespace Go.Proofs.YtajdholblmdnjaaGreatDoor
open Go.RowKit Go.Proofs
def secs13 (k : Nat) (kd : UInt8) (p g : Nat) (b : List UInt8) (i : Nat) : List UInt8 := secT kd p g b.length (row13 k b i) i
theorem secs13_len {k : Nat} {kd : UInt8} {p g : Nat} {b : List UInt8} {i : Nat} (hk : 1 ≤ k) (h : RefOk kd p g b.length (44 * k)) : (secs13 k kd p g b i).length = 64 := secT_len h (row13_len hk)
structure MkB (w : World) (b1 b2 b3 A C : Nat) (kd : UInt8) (p g : Nat) (Ar : Option Addr) (n c : Nat) (rs : List (List UInt8)) (z : Nat) : Prop where
 st : StB w b1 A C kd p g
 rows : w.heap[b2]? = some (.cells #[.slice Ar n c] 65 (0, 0))
 size : w.heap[b3]? = some (.cells #[.int .u16 (z : Int)] 72 (0, 0))
 gr : Gr w Ar n c rs
section
variable {w w' : World} {b1 b2 b3 A C p g n c z i : Nat} {kd : UInt8} {Ar : Option Addr} {rs : List (List UInt8)}
theorem MkB.later (h : MkB w b1 b2 b3 A C kd p g Ar n c rs z) (hb : Below w.heap.size w w') : MkB w' b1 b2 b3 A C kd p g Ar n c rs z :=
 ⟨h.st.later hb, (hb.block _ (block_lt h.rows)).trans h.rows, (hb.block _ (block_lt h.size)).trans h.size, h.gr.later hb⟩
theorem MkB.c2 (h : MkB w b1 b2 b3 A C kd p g Ar n c rs z) : w.cell? ⟨b2, 0, none⟩ = some (.slice Ar n c) := by rw [cell_of_row _ _ _ _ _ _ h.rows]; rfl
theorem MkB.c3 (h : MkB w b1 b2 b3 A C kd p g Ar n c rs z) : w.cell? ⟨b3, 0, none⟩ = some (.int .u16 (z : Int)) := by rw [cell_of_row _ _ _ _ _ _ h.size]; rfl
theorem stmaker_any (A C : Nat) (kd : UInt8) (p g : Nat) (z : Nat) (w : World) (hg : Gr w Ar n c rs) :
  Calls Tryz.prog 32 #[.agg #[.pointer (some ⟨A, 0, none⟩), .pointer (some ⟨C, 0, none⟩), .int .u8 (kd.toNat : Int), .int .i64 (p : Int), .int .u64 (g : Int)], .slice Ar n c, .int .u16 (z : Int)] w fun e w' => ∃ b1 b2 b3, e = .returned (.func (.func 65) #[] #[.pointer (some ⟨b1, 0, none⟩), .pointer (some ⟨b3, 0, none⟩), .pointer (some ⟨b2, 0, none⟩)]) ∧ MkB w' b1 b2 b3 A C kd p g Ar n c rs z ∧ Below w.heap.size w w' := by
 have H := Lib.hid hg
 clear hg
 go_enter Tryz.func32, Tryz.ntmps32
 go_wp2_with fail
 go_ret
 refine ⟨_, _, _, rfl, ⟨?_, ?_, ?_, H.out.later ?_⟩, ?_⟩
 ·exact ((Below.heap_alloc _ _ _ (by simp; omega)).trans (Below.heap_alloc _ _ _ (by simp))).trans (heap_alloc_new w _)
 ·exact (Below.heap_alloc _ _ _ (by simp)).trans (by
   have := heap_alloc_new (w.alloc (.cells #[.pointer (some ⟨A, 0, none⟩), .pointer (some ⟨C, 0, none⟩), .int .u8 (kd.toNat : Int), .int .i64 (p : Int), .int .u64 (g : Int)] 63)) (.cells #[.slice Ar n c] 65)
   simpa using this)
 ·have := heap_alloc_new ((w.alloc (.cells #[.pointer (some ⟨A, 0, none⟩), .pointer (some ⟨C, 0, none⟩), .int .u8 (kd.toNat : Int), .int .i64 (p : Int), .int .u64 (g : Int)] 63)).alloc (.cells #[.slice Ar n c] 65)) (.cells #[.int .u16 (z : Int)] 72)
  simpa using this
 ·exact (((Below.refl _ _).alloc (Nat.le_refl _) _).alloc (by simp) _).alloc (by simp; omega) _
 ·exact (((Below.refl _ _).alloc (Nat.le_refl _) _).alloc (by simp) _).alloc (by simp; omega) _
end
theorem built_sh13 (k i p g z : Int) (l : List UInt8) : Tryz.prog.built 97 [(0, .int .u8 k), (1, .int .u8 i), (2, .int .u16 p), (3, .int .u64 g), (4, .int .u16 z), (5, .agg (cells (pad44 l)).toArray)] = some (Value.int .u8 k :: .int .u8 i :: .int .u16 p :: .int .u64 g :: .int .u16 z :: cells (pad44 l)).toArray := by kernel_rfl
theorem step_buildSh13 {ρ : Operand → Value} {o : Oper} {a b c d e f : Operand} {w : World} {s : Sh} {i : Int} (ho : o.op = .build 97 #[(0, a), (1, b), (2, c), (3, d), (4, e), (5, f)]) (h0 : ρ a = .int .u8 (s.kind.toNat : Int)) (h1 : ρ b = .int .u8 i) (hi : i = (s.idx.toNat : Int)) (h2 : ρ c = .int .u16 (s.place : Int)) (h3 : ρ d = .int .u64 (s.gen : Int)) (h4 : ρ e = .int .u16 (s.size : Int)) (h5 : ρ f = .agg (cells (pad44 s.body)).toArray) :
  (execOp ρ o).run Tryz.prog w = .ok (.value (.agg s.cs.toArray)) w := by
 subst hi
 have h := run_build (P := Tryz.prog) w 97 _ _ (built_sh13 (s.kind.toNat : Int) (s.idx.toNat : Int) (s.place : Int) (s.gen : Int) (s.size : Int) s.body)
 unfold execOp
 simp [ho, h0, h1, h2, h3, h4, h5, h, Result.andThen, Sh.cs]
theorem step_load44 {ρ : Operand → Value} {o : Oper} {x : Operand} {w : World} {b off : Nat} {l : List UInt8} (ho : o.op = .load 95 x) (hx : ρ x = .pointer (some ⟨b, off, none⟩)) (h : w.rangeAt b off (cells (pad44 l))) : (execOp ρ o).run Tryz.prog w = .ok (.value (.agg (cells (pad44 l)).toArray)) w := by
 unfold execOp
 simp only [ho, hx, Instr.loadAt, Instr.sureAddr, Sem.run_bind, Sem.run_pure, Result.andThen_ok, run_loadVar_mid w b off 95 _ _ h Tryz.underlying95 rfl (size_b44l l)]
theorem arr44 (b o c : Nat) (w : World) : (Instr.arrayAt 95 (.slice (some ⟨b, o, none⟩) 44 c)).run Tryz.prog w = .ok (.pointer (some ⟨b, o, none⟩)) w := by
 simp [Instr.arrayAt, run_underlying Tryz.underlying95]
section
variable {w : World} {b1 b2 b3 A C p g n c z i : Nat} {kd : UInt8} {Ar : Option Addr} {rs : List (List UInt8)} {row : List UInt8}
theorem making_any (h : MkB w b1 b2 b3 A C kd p g Ar n c rs z) (hN : Nt w) (hi : i < n) (hn : n ≤ 255) (hrow : rs[i]? = some row) (hr : row.length = 44) (hk1 : 1 ≤ kd.toNat) (hk4 : kd.toNat ≤ 4) (hp : p < 65536) (hg : g < 18446744073709551616) (hz : z < 65536) :
  Calls Tryz.prog 65 #[.int .i64 (i : Int), .pointer (some ⟨b1, 0, none⟩), .pointer (some ⟨b3, 0, none⟩), .pointer (some ⟨b2, 0, none⟩)] w fun e w' => ∃ A', e = .returned (.slice A' 64 64) ∧ Sl w' 1 A' 64 64 (cells (secT kd p g z row i)) ∧ Below w.heap.size w w' ∧ ∀ b o, A' = some ⟨b, o, none⟩ → w.heap.size ≤ b := by
 obtain ⟨s, hs⟩ : ∃ s : Sh, s = ⟨kd, UInt8.ofNat i, p, g, z, row⟩ := ⟨_, rfl⟩
 have hok : s.Ok := by rw [hs]; exact ⟨hp, hg, hz, hr⟩
 have hkn : s.kn = true := by rw [hs]; simp [Sh.kn, hk1, hk4]
 have hidx : (i : Int) = (s.idx.toNat : Int) := by rw [hs]; show (i : Int) = ((UInt8.ofNat i).toNat : Int); rw [UInt8.toNat_ofNat', Nat.mod_eq_of_lt (by omega)]
 have hsec : secT kd p g z row i = s.sector := by rw [hs]; rfl
 rw [hsec]
 have HS := Lib.hid hs
 have HI := Lib.hid hidx
 have OK := Lib.hid hok
 have KN := Lib.hid hkn
 have H := Lib.hid h
 have NT := Lib.hid hN
 obtain ⟨bR, oR, rfl, hc⟩ := h.gr.at_ (by omega)
 obtain ⟨A1, c1, hcr, hsr⟩ := hc i row hrow
 rw [hr] at hcr hsr
 obtain ⟨bq, oq, rfl, hcq⟩ := hsr.at_ (show 0 < 44 by decide)
 have HCR := Lib.hid hcr
 have HRG := Lib.hid (show w.rangeAt bq oq (cells (pad44 row)) from fun j v hv => hcq j v (by rwa [pad44_eq hr] at hv))
 have hwi : IntKind.u8.wrap (i : Int) = (i : Int) := by rw [IntKind.wrap_u8]; omega
 have hwp : IntKind.u16.wrap (p : Int) = (p : Int) := by rw [IntKind.wrap_u16]; omega
 have hin : (i : Int) < (n : Int) := by omega
 clear hs hok hkn hidx hsec h hN hc hcr hsr hcq hrow hr hk1 hk4 hp hg hz
 go_enter Tryz.func65, Tryz.ntmps65
 go_wp2_with fail
 refine wp_region_held_drew (S := fun w' => Fr (fun _ => False) w.drew w') (by kernel_rfl) (Fr.refl _ _) (fun hHeld => ?_)
 clear hHeld
 refine tL (i := 0) (d := some 9) (v := ?vk0) rfl ?yk0 (Fr.refl _ _) ?rk0
 case yk0 =>
  intro wq hSw
  (try dsimp only at hSw)
  go_simp <;> with_reducible rfl
 try simp only [Act.put,sA,sB,sC]
 refine tL (i := 1) (d := some 10) (v := ?vk1) rfl ?yk1 (Fr.refl _ _) ?rk1
 case yk1 =>
  intro wq hSw
  (try dsimp only at hSw)
  go_simp <;> with_reducible rfl
 try simp only [Act.put,sA,sB,sC]
 refine tL (i := 2) (d := some 11) (v := ?vk2) rfl ?yk2 (Fr.refl _ _) ?rk2
 case yk2 =>
  intro wq hSw
  (try dsimp only at hSw)
  have hq := hSw.cell_some H.out.st.c2 (fun h => h)
  go_simp <;> with_reducible rfl
 try simp only [Act.put,sA,sB,sC]
 refine tL (i := 3) (d := some 12) (v := ?vk3) rfl ?yk3 (Fr.refl _ _) ?rk3
 case yk3 =>
  intro wq hSw
  (try dsimp only at hSw)
  go_simp <;> with_reducible rfl
 try simp only [Act.put,sA,sB,sC]
 refine tL (i := 4) (d := some 13) (v := ?vk4) rfl ?yk4 (Fr.refl _ _) ?rk4
 case yk4 =>
  intro wq hSw
  (try dsimp only at hSw)
  go_simp <;> with_reducible rfl
 try simp only [Act.put,sA,sB,sC]
 refine tL (i := 5) (d := some 14) (v := ?vk5) rfl ?yk5 (Fr.refl _ _) ?rk5
 case yk5 =>
  intro wq hSw
  (try dsimp only at hSw)
  go_simp <;> with_reducible rfl
 try simp only [Act.put,sA,sB,sC]
 refine tL (i := 6) (d := some 15) (v := ?vk6) rfl ?yk6 (Fr.refl _ _) ?rk6
 case yk6 =>
  intro wq hSw
  (try dsimp only at hSw)
  go_simp <;> with_reducible rfl
 try simp only [Act.put,sA,sB,sC]
 refine tL (i := 7) (d := some 16) (v := ?vk7) rfl ?yk7 (Fr.refl _ _) ?rk7
 case yk7 =>
  intro wq hSw
  (try dsimp only at hSw)
  have hq := hSw.cell_some H.out.st.c3 (fun h => h)
  go_simp <;> with_reducible rfl
 try simp only [Act.put,sA,sB,sC]
 refine tL (i := 8) (d := some 17) (v := ?vk8) rfl ?yk8 (Fr.refl _ _) ?rk8
 case yk8 =>
  intro wq hSw
  (try dsimp only at hSw)
  go_simp <;> with_reducible rfl
 try simp only [Act.put,sA,sB,sC]
 refine tL (i := 9) (d := some 18) (v := ?vk9) rfl ?yk9 (Fr.refl _ _) ?rk9
 case yk9 =>
  intro wq hSw
  (try dsimp only at hSw)
  go_simp <;> with_reducible rfl
 try simp only [Act.put,sA,sB,sC]
 refine tL (i := 10) (d := some 19) (v := ?vk10) rfl ?yk10 (Fr.refl _ _) ?rk10
 case yk10 =>
  intro wq hSw
  (try dsimp only at hSw)
  go_simp <;> with_reducible rfl
 try simp only [Act.put,sA,sB,sC]
 refine tL (i := 11) (d := some 20) (v := ?vk11) rfl ?yk11 (Fr.refl _ _) ?rk11
 case yk11 =>
  intro wq hSw
  (try dsimp only at hSw)
  have hq := hSw.cell_some H.out.st.c4 (fun h => h)
  go_simp <;> with_reducible rfl
 try simp only [Act.put,sA,sB,sC]
 refine tL (i := 12) (d := some 21) (v := ?vk12) rfl ?yk12 (Fr.refl _ _) ?rk12
 case yk12 =>
  intro wq hSw
  (try dsimp only at hSw)
  have hq := hSw.cell_some H.out.c3 (fun h => h)
  go_simp <;> with_reducible rfl
 try simp only [Act.put,sA,sB,sC]
 refine tL (i := 13) (d := some 22) (v := ?vk13) rfl ?yk13 (Fr.refl _ _) ?rk13
 case yk13 =>
  intro wq hSw
  (try dsimp only at hSw)
  have hq := hSw.cell_some H.out.c2 (fun h => h)
  go_simp <;> with_reducible rfl
 try simp only [Act.put,sA,sB,sC]
 refine tL (i := 14) (d := some 23) (v := ?vk14) rfl ?yk14 (Fr.refl _ _) ?rk14
 case yk14 =>
  intro wq hSw
  (try dsimp only at hSw)
  go_simp <;> with_reducible rfl
 try simp only [Act.put,sA,sB,sC]
 refine tL (i := 15) (d := some 24) (v := ?vk15) rfl ?yk15 (Fr.refl _ _) ?rk15
 case yk15 =>
  intro wq hSw
  (try dsimp only at hSw)
  go_simp <;> with_reducible rfl
 try simp only [Act.put,sA,sB,sC]
 refine tL (i := 16) (d := some 25) (v := ?vk16) rfl ?yk16 (Fr.refl _ _) ?rk16
 case yk16 =>
  intro wq hSw
  (try dsimp only at hSw)
  have hq := hSw.cell_some HCR.out (fun h => h)
  go_simp <;> with_reducible rfl
 try simp only [Act.put,sA,sB,sC]
 refine tL (i := 17) (d := some 26) (v := ?vk17) rfl ?yk17 (Fr.refl _ _) ?rk17
 case yk17 =>
  intro wq hSw
  (try dsimp only at hSw)
  have hsa := arr44 bq oq c1 wq
  go_simp <;> with_reducible rfl
 try simp only [Act.put,sA,sB,sC]
 refine tL (i := 18) (d := some 27) (v := (.agg (cells (pad44 row)).toArray)) rfl ?yk18 (Fr.refl _ _) ?rk18
 case yk18 =>
  intro wq hSw
  exact step_load44 (x := .tmp 26) (b := bq) (off := oq) (l := row) rfl rfl (fun j v hv => hSw.cell_some (HRG.out j v hv) (fun h => h))
 try simp only [Act.put,sA,sB,sC]
 refine tL (i := 19) (d := some 28) (v := (.agg s.cs.toArray)) rfl ?yk19 (Fr.refl _ _) ?rk19
 case yk19 =>
  intro wq hSw
  exact step_buildSh13 (s := s) (i := (i : Int)) rfl (by rw [HS.out]; rfl) (by go_simp) HI.out (by rw [HS.out]; go_simp) (by rw [HS.out]; rfl) (by rw [HS.out]; rfl) (by rw [HS.out]; rfl)
 try simp only [Act.put,sA,sB,sC]
 refine rW (i := 20) (d := some 29) rfl fun K hK => ?_
 go_simp
 refine (sput_yes s OK.out KN.out w.drew (NT.out.keep (Below.drew (Below.refl _ _)))).mono ?_; rintro e w1 ⟨A1, rfl, hs1, hm1, hb1⟩
 have hfr : Fr (fun _ => False) w.drew w1 := Fr.of_below hb1
 have S1 := Lib.hid hs1
 have B1 := Lib.hid (show Below w.heap.size w w1 from (Below.drew (Below.refl w.heap.size w)).trans hb1)
 have L1 := Lib.hid (show ∀ b o, A1 = some ⟨b, o, none⟩ → w.heap.size ≤ b from fun b o e => by
  obtain ⟨gg, cur, hA, hg, _⟩ := hm1 (by decide)
  rw [e] at hA
  injection hA with hA
  injection hA with hA _
  have hg : w.heap.size ≤ gg := hg
  omega)
 clear hs1 hm1 hb1
 go_wp2_with fail
 refine hK.out _ _ hfr (fun hHeld => ?_)
 clear hK K hHeld
 try simp only [Act.put,sA,sB,sC]
 refine wpAnyH_re (S' := fun w' => Fr (fun _ => False) w1 w') (fun w' h => hfr.trans h) ?_
 clear hfr
 refine tL (i := 21) (d := some 8) (v := ?vk21) rfl ?yk21 (Fr.refl _ _) ?rk21
 case yk21 =>
  intro wq hSw
  (try dsimp only at hSw)
  go_simp <;> with_reducible rfl
 try simp only [Act.put,sA,sB,sC]
 refine tL (i := 22) (d := some 30) (v := ?vk22) rfl ?yk22 (Fr.refl _ _) ?rk22
 case yk22 =>
  intro wq hSw
  (try dsimp only at hSw)
  go_simp <;> with_reducible rfl
 try simp only [Act.put,sA,sB,sC]
 refine tL (i := 23) (d := some 31) (v := ?vk23) rfl ?yk23 (Fr.refl _ _) ?rk23
 case yk23 =>
  intro wq hSw
  (try dsimp only at hSw)
  go_simp <;> with_reducible rfl
 try simp only [Act.put,sA,sB,sC]
 refine tL (i := 24) (d := some 6) (v := ?vk24) rfl ?yk24 (Fr.refl _ _) ?rk24
 case yk24 =>
  intro wq hSw
  (try dsimp only at hSw)
  go_simp <;> with_reducible rfl
 try simp only [Act.put,sA,sB,sC]
 refine tL (i := 25) (d := some 7) (v := ?vk25) rfl ?yk25 (Fr.refl _ _) ?rk25
 case yk25 =>
  intro wq hSw
  (try dsimp only at hSw)
  go_simp <;> with_reducible rfl
 try simp only [Act.put,sA,sB,sC]
 refine tD ?_
 go_wp2_with fail
 go_ret
 exact ⟨A1, rfl, S1.out, B1.out, L1.out⟩
end
def rowW (n p : Nat) (sec : Nat → List UInt8) (t : Nat) : List (List UInt8) := (List.range n).map fun d => if idxN n p d < t then sec (idxN n p d) else []
section
variable {n p t d : Nat} {sec : Nat → List UInt8}
theorem rowW_len : (rowW n p sec t).length = n := by simp [rowW]
theorem rowW_zero : List.replicate n [] = rowW n p sec 0 := by
 apply List.ext_getElem
 ·rw [rowW_len, List.length_replicate]
 ·intro i h1 h2; simp [rowW]
theorem rowW_next (ht : t < n) : (rowW n p sec t).set (homeN n p t) (sec t) = rowW n p sec (t + 1) := by
 apply List.ext_getElem
 ·rw [List.length_set, rowW_len, rowW_len]
 ·intro d h1 h2
  rw [rowW_len] at h2
  rw [List.getElem_set]
  simp only [rowW, List.getElem_map, List.getElem_range]
  by_cases e : homeN n p t = d
  ·have hid : idxN n p d = t := by rw [← e]; exact idx_home ht
   rw [if_pos e, hid, if_pos (by omega)]
  ·rw [if_neg e]
   have hid : idxN n p d ≠ t := fun q => e (by rw [← q]; exact home_idx h2)
   by_cases q : idxN n p d < t
   ·rw [if_pos q, if_pos (by omega)]
   ·rw [if_neg q, if_neg (by omega)]
theorem rowW_at (hd : d < n) : (rowW n p sec n)[d]? = some (sec (idxN n p d)) := by
 simp only [rowW, List.getElem?_map, List.getElem?_range hd, Option.map_some]
 rw [if_pos (idx_lt13 (by omega))]
theorem rowW_getD (hd : d < n) : (rowW n p sec n).getD d [] = sec (idxN n p d) := by rw [List.getD_eq_getElem?_getD, rowW_at hd, Option.getD_some]
variable {xs : List Dv} {N : Nat}
theorem putN_rows (hl : xs.length = n) (hx : ∀ (d : Nat) (x : Dv), xs[d]? = some x → x.Ok ∧ x.n = N) (hp : p < N) (hs : ∀ i, (sec i).length = 0 ∨ (sec i).length = 64) : ∀ t, t ≤ n →
  putN xs (rowW n p sec n) (p : Int) t = (List.range t).countP fun d => decide (0 < (sec (idxN n p d)).length) && liveG xs d
 | 0, _ => by simp [putN, putA]
 | t + 1, ht => by
  have hx1 : xs[t]? = some (xs[t]'(by omega)) := List.getElem?_eq_getElem _
  obtain ⟨x, hxe⟩ : ∃ x, x = xs[t]'(by omega) := ⟨_, rfl⟩
  rw [← hxe] at hx1
  rw [putN_next hx1 (rowW_at (by omega)), putN_rows hl hx hp hs t (by omega), List.range_succ, List.countP_append, List.countP_singleton, liveG_at hx1]
  congr 1
  have hhas : x.has (p : Int) := has_of (hx t x hx1).2 hp
  rcases hs (idxN n p t) with h0 | h64
  ·rw [if_neg (by omega), if_neg (by simp [h0])]
  ·cases hg : x.gone
   ·rw [if_pos ⟨by omega, Dv.writeX_yes hg hhas h64⟩, if_pos (by simp [h64])]
   ·rw [if_neg (fun q => by rw [Dv.writeX, if_pos hg] at q; exact absurd q.2 (by decide)), if_neg (by simp)]
theorem upTo_congr13 {F F' : Nat → Dv → Dv} (h : ∀ (d : Nat) (x : Dv), d < n → xs[d]? = some x → F d x = F' d x) : upTo F xs n = upTo F' xs n := by
 apply List.ext_getElem
 ·rw [upTo_len, upTo_len]
 ·intro d h1 h2
  rw [upTo_len] at h1
  simp only [upTo, List.getElem_mapIdx]
  split
  ·rename_i hd
   exact h d _ hd (List.getElem?_eq_getElem h1)
  ·rfl
end
section
variable {Rep : World → (Nat → Prop) → Nat → Dv → Prop} {w : World} {S : Nat → Prop} {A C k m F T N n p g : Nat} {kd : UInt8} {xs : List Dv}
theorem stwrite_any (DK : DrvK Rep) (h : Ac13 Rep w S A C k m F T N xs) (hn : n = k + m) (hp : p < 65536) (f : Nat) (ef : ∀ args w, (callFunc f args).run Tryz.prog w = .ok (.enter f args) w) (caps : Array Value) (sec : Nat → List UInt8)
  (ht : ∀ (u : World) (i : Nat), i < n → Below w.heap.size w u → Calls Tryz.prog f (#[.int .i64 (i : Int)] ++ caps) u fun e u' => ∃ A' c', e = .returned (.slice A' (sec i).length c') ∧ Sl u' 1 A' (sec i).length c' (cells (sec i)) ∧ Below u.heap.size u u' ∧ ∀ b o, 0 < (sec i).length → A' = some ⟨b, o, none⟩ → u.heap.size ≤ b) :
  Calls Tryz.prog 31 #[.agg #[.pointer (some ⟨A, 0, none⟩), .pointer (some ⟨C, 0, none⟩), .int .u8 (kd.toNat : Int), .int .i64 (p : Int), .int .u64 (g : Int)], .func (.func f) #[] caps] w fun e w' => e = .returned (.int .i64 (putN xs (rowW n p sec n) (p : Int) n : Nat)) ∧ MutA Rep S A (putS xs (rowW n p sec n) (p : Int) n) w w' := by
 have hq1 : 1 ≤ n := by have := h.c.k1; omega
 have hq2 : n ≤ 255 := by have := h.c.n255; omega
 have hlen : xs.length = n := by rw [h.len, hn]
 have hp9 : p < 9223372036854775808 := by omega
 have hmk := makes_eq (n : Int) n rfl (by omega)
 have AC := Lib.hid h
 have Hn := Lib.hid hn
 have Hlen := Lib.hid hlen
 have HT := Lib.hid ht
 clear h hn hlen ht
 go_enter Tryz.func31, Tryz.ntmps31
 go_wp2_with fail
 have hnew : StB (w.alloc (.cells #[.pointer (some ⟨A, 0, none⟩), .pointer (some ⟨C, 0, none⟩), .int .u8 (kd.toNat : Int), .int .i64 (p : Int), .int .u64 (g : Int)] 63)) w.heap.size A C kd p g := heap_alloc_new w _
 have hb0 : Below w.heap.size w (w.alloc (.cells #[.pointer (some ⟨A, 0, none⟩), .pointer (some ⟨C, 0, none⟩), .int .u8 (kd.toNat : Int), .int .i64 (p : Int), .int .u64 (g : Int)] 63)) := (Below.refl _ _).alloc (Nat.le_refl _) _
 obtain ⟨w1, hw1⟩ : ∃ x, x = w.alloc (.cells #[.pointer (some ⟨A, 0, none⟩), .pointer (some ⟨C, 0, none⟩), .int .u8 (kd.toNat : Int), .int .i64 (p : Int), .int .u64 (g : Int)] 63) := ⟨_, rfl⟩
 rw [← hw1] at hnew hb0 ⊢
 obtain ⟨B, hB⟩ : ∃ B, B = w.heap.size := ⟨_, rfl⟩
 rw [← hB] at hnew ⊢
 have HB := Lib.hid hB
 have Hs1 := Lib.hid hnew
 have B1 := Lib.hid hb0
 clear hw1 hnew hb0 hB
 refine (cn13 (AC.out.c.later B1.out) Hn.out).mono ?_; rintro e w2 ⟨rfl, hb2⟩
 have B2 := Lib.hid (B1.out.trans (hb2.mono B1.out.size))
 have Hs2 := Lib.hid (Hs1.out.later hb2)
 clear hb2
 go_wp2_with fail
 have hb3 : Below w2.heap.size w2 (w2.alloc (.cells (madeCells #[.slice none 0 0] n) 24)) := (Below.refl _ _).alloc (Nat.le_refl _) _
 have hnr : Nr (w2.alloc (.cells (madeCells #[.slice none 0 0] n) 24)) w.heap.size w2.heap.size n (rowW n p sec 0) := by rw [← rowW_zero]; exact Nr.made w2 _ n (by unfold maxLen; omega)
 obtain ⟨w3, hw3⟩ : ∃ v, v = w2.alloc (.cells (madeCells #[.slice none 0 0] n) 24) := ⟨_, rfl⟩
 rw [← hw3] at hb3 hnr ⊢
 have B3 := Lib.hid (B2.out.trans (hb3.mono B2.out.size))
 have Hs3 := Lib.hid (Hs2.out.later hb3)
 have NR3 := Lib.hid hnr
 obtain ⟨Q, hQ⟩ : ∃ Q, Q = w2.heap.size := ⟨_, rfl⟩
 rw [← hQ] at NR3 ⊢
 have HQ := Lib.hid (show Q < w3.heap.size ∧ B < Q ∧ w.heap.size ≤ Q from ⟨NR3.out.lt, by rw [hQ]; exact Hs2.out.lt, by have := B2.out.size; omega⟩)
 clear hw3 hb3 hnr hmk hQ
 go_wp2_with fail
 go_loopw [13] (fun i wr => ∃ t : Nat, t ≤ n ∧ i = .int .i64 (t : Int) ∧ Nr wr w.heap.size Q n (rowW n p sec t) ∧ Fr (fun b => b = Q) w3 wr) (fun i _ => n - (intOf i).toNat)
 case atStart => exact ⟨0, by omega, rfl, NR3.out, Fr.refl _ _⟩
 case round =>
  obtain ⟨t, ht, rfl, hnr, hf⟩ := hrel
  have NR := Lib.hid hnr
  have Hf := Lib.hid hf
  have Br := Lib.hid (B3.out.trans (hf.below (by have := B3.out.size; omega) (fun x q => by have q : x = Q := q; have := HQ.out; omega)))
  have Hsr := Lib.hid (Hs3.out.fr hf (fun q => by have q : B = Q := q; have := HQ.out; omega))
  clear hnr hf
  by_cases hlt : t < n
  ·have hti : (t : Int) < (n : Int) := by omega
   obtain ⟨d, hd⟩ : ∃ d, d = homeN n p t := ⟨_, rfl⟩
   have hdn : d < n := by rw [hd]; exact home_lt (by omega)
   have hdi : (d : Int) < (n : Int) := by omega
   have Hdh := Lib.hid hd
   clear hd
   go_wp2_with (refine at_dst11 (d := 17) ?_; refine wpList_step11 (o := ⟨some 17, _, _, _, _, _⟩) rfl _ wr (step_st13 (x := .tmp 2) rfl rfl Hsr.out) ?_)
   refine (sthome_any (A := A) (kd := kd) (g := g) (AC.out.c.later Br.out) Hn.out hp9 (show t < 9223372036854775808 by omega)).mono ?_; rintro e w4 ⟨rfl, hb4⟩
   rw [← Hdh.out]
   have B4 := Lib.hid (Br.out.trans (hb4.mono Br.out.size))
   have NR4 := Lib.hid (NR.out.later hb4)
   have F4 := Lib.hid (Hf.out.trans (Fr.of_below hb4 : Fr (fun b => b = Q) wr w4))
   clear hb4
   have hh := HT.out w4 t hlt B4.out
   go_wp2_with fail
   refine hh.mono ?_; clear hh; rintro e w5 ⟨A5, c5, rfl, hs5, hb5, hlo5⟩
   obtain ⟨⟨v, hv⟩, hz⟩ := (NR4.out.later hb5).cell hdn
   have hst := (NR4.out.later hb5).store hdn (r := sec t) hs5 (fun b o hl e => by
    have := hlo5 b o hl e
    have := NR4.out.lt
    have := B4.out.size
    omega)
   have hnx := rowW_next (sec := sec) (p := p) hlt
   rw [← Hdh.out] at hnx
   rw [hnx] at hst
   have ST := Lib.hid hst
   have F5 := Lib.hid (F4.out.trans (((Fr.of_below hb5 : Fr (fun b => b = Q) w4 w5)).setCell (p := ⟨Q, d, none⟩) (.inr rfl) (.slice A5 (sec t).length c5)))
   clear hst hnx hb5 hlo5 hs5
   go_wp2_with fail
   go_roundw
   case rel => exact ⟨t + 1, by omega, by go_num, ST.out, F5.out⟩
   case measure => simp [intOf]; omega
  ·obtain rfl : t = n := by omega
   have c0 := Hsr.out.c0
   have c3 := Hsr.out.c3
   have hold := fun x => AC.out.a.old (b := x)
   have hC := arputrow_any DK (AC.out.a.later DK.lay Br.out) (AC.out.wl.mono13 (by decide)) (by rw [Hlen.out]; omega) (p : Int) (by omega) (by omega) (NR.out.ns (by have := HQ.out; omega)) (fun b hb hS => by have := hold b hS; omega)
   rw [Hlen.out, Nat.min_self] at hC
   clear hold
   go_wp2_with fail
   refine hC.mono ?_; clear hC; rintro e w6 ⟨rfl, S6, ha6, hn6⟩
   have M6 := Lib.hid (show MutA Rep S A (putS xs (rowW t p sec t) (p : Int) t) w w6 from ⟨S6, ha6, hn6.below Br.out⟩)
   obtain ⟨q, hq⟩ : ∃ q, q = putN xs (rowW t p sec t) (p : Int) t := ⟨_, rfl⟩
   rw [← hq]
   clear ha6 hn6 c0 c3
   go_wp2_with fail
   go_ret
   exact ⟨rfl, M6.out⟩
end
end Go.Proofs.YtajdholblmdnjaaGreatDoor

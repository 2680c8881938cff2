/-
  The contract of package stripe's whole: which shards are whole, in a map, and the text's length. Condition: the array and the coder are ones that New made; what the drives read at the place is a stripe's ('Str'). (Written by gen_ede.py.)
-/
import Derived.Test.YtajdholblmdnjaaGreatDoorEdd
import Derived.Test.YtajdholblmdnjaaGreatDoorEda
import Derived.Deep.RegionHeld3
set_option linter.unusedVariables false
set_option maxRecDepth 100000
set_option maxHeartbeats 3200000
namespace Go.Proofs.YtajdholblmdnjaaGreatDoor
open Go.RowKit Go.Proofs
def sh13 (k : Nat) (kd : UInt8) (p g : Nat) (b : List UInt8) (i : Nat) : Sh := ⟨kd, UInt8.ofNat i, p, g, b.length, row13 k b i⟩
section
variable {xs : List Dv} {k n N p g i : Nat} {kd : UInt8} {b : List UInt8} {G : Nat → Bool}
theorem sh13_ok (hr : RefOk kd p g b.length (44 * k)) (hk : 1 ≤ k) : (sh13 k kd p g b i).Ok := (secT_ok hr (row13_len hk)).1
theorem sh13_is (hi : i < 256) : isB (sh13 k kd p g b i) kd (p : Int) g (i : Int) = true := by
 refine decide_eq_true ⟨rfl, rfl, rfl, ?_⟩
 show ((UInt8.ofNat i).toNat : Int) = (i : Int)
 rw [UInt8.toNat_ofNat', Nat.mod_eq_of_lt (by omega)]
theorem Str.read (h : Str xs k n N kd p g b G) (hk : 1 ≤ k) (hr : RefOk kd p g b.length (44 * k)) (hp : p < N) (hi : i < n) (hn : n ≤ 255) {x : Dv} (hx : xs[homeN n p i]? = some x) :
  (G (homeN n p i) = true ∧ getE (x.readL (p : Int)) = 0 ∧ getS (x.readL (p : Int)) = sh13 k kd p g b i) ∨
  (G (homeN n p i) = false ∧ (getE (x.readL (p : Int)) ≠ 0 ∨ (getE (x.readL (p : Int)) = 0 ∧ isB (getS (x.readL (p : Int))) kd (p : Int) g (i : Int) = false) ∨ (getE (x.readL (p : Int)) = 0 ∧ isB (getS (x.readL (p : Int))) kd (p : Int) g (i : Int) = true ∧ 44 * k < (getS (x.readL (p : Int))).size))) := by
 have his := h.at_ _ x hx
 have hix : idxN n p (homeN n p i) = i := idx_home hi
 have hhas : x.has (p : Int) := has_of his.n hp
 cases hG : G (homeN n p i) with
 | true =>
  obtain ⟨hg, hl⟩ := his.yes hG
  have e : x.readL (p : Int) = secT kd p g b.length (row13 k b i) i := by
   rw [Dv.readL_yes hg hhas, Int.toNat_natCast, hl, sec13, hix]
  obtain ⟨h1, h2⟩ := secT_get (i := i) hr (row13_len (b := b) (i := i) hk)
  rw [e]
  exact .inl ⟨rfl, h1, by rw [getS_fine h1, h2]; rfl⟩
 | false =>
  refine .inr ⟨rfl, ?_⟩
  by_cases hE : getE (x.readL (p : Int)) = 0
  ·refine .inr ?_
   have hnw : ¬ isWhole kd p g i (44 * k) (x.readL (p : Int)) := by
    rcases his.no hG with hg | hw
    ·rintro ⟨h1, _⟩
     rw [Dv.readL, if_pos hg, getE_len (by decide)] at h1
     cases h1
    ·cases hg : x.gone
     ·rw [Dv.readL_yes hg hhas, Int.toNat_natCast]
      unfold who13 at hw
      rwa [hix] at hw
     ·rintro ⟨h1, _⟩
      rw [Dv.readL, if_pos hg, getE_len (by decide)] at h1
      cases h1
   rw [getS_fine hE]
   cases hB : isB (shardOf (x.readL (p : Int))) kd (p : Int) g (i : Int) with
   | false => exact .inl ⟨hE, rfl⟩
   | true =>
    refine .inr ⟨hE, rfl, ?_⟩
    rcases Nat.lt_or_ge (44 * k) (shardOf (x.readL (p : Int))).size with q | q
    ·exact q
    ·exact absurd ⟨hE, hB, q⟩ hnw
  ·exact .inl hE
end
def mapF (k n : Nat) (kd : UInt8) (p g : Nat) (b : List UInt8) (G : Nat → Bool) (t i : Nat) : Option Sh := if i < t ∧ G (homeN n p i) = true then some (sh13 k kd p g b i) else none
def cntF (n p : Nat) (G : Nat → Bool) (t : Nat) : Nat := (List.range t).countP fun i => G (homeN n p i)
section
variable {k n p g t : Nat} {kd : UInt8} {b : List UInt8} {G : Nat → Bool}
theorem mapF_zero : (fun _ => none) = mapF k n kd p g b G 0 := by
 funext i
 rw [mapF, if_neg (by omega)]
theorem mapF_none : mapF k n kd p g b G t t = none := by rw [mapF, if_neg (by omega)]
theorem mapF_yes (h : G (homeN n p t) = true) : (fun j => if j = t then some (sh13 k kd p g b t) else mapF k n kd p g b G t j) = mapF k n kd p g b G (t + 1) := by
 funext j
 unfold mapF
 by_cases e : j = t
 ·subst e
  rw [if_pos rfl, if_pos ⟨by omega, h⟩]
 ·rw [if_neg e]
  by_cases q : j < t ∧ G (homeN n p j) = true
  ·rw [if_pos q, if_pos ⟨by omega, q.2⟩]
  ·rw [if_neg q, if_neg (fun r => q ⟨by omega, r.2⟩)]
theorem mapF_no (h : G (homeN n p t) = false) : mapF k n kd p g b G t = mapF k n kd p g b G (t + 1) := by
 funext j
 unfold mapF
 by_cases q : j < t ∧ G (homeN n p j) = true
 ·rw [if_pos q, if_pos ⟨by omega, q.2⟩]
 ·rw [if_neg q, if_neg (fun r => q ⟨by
   rcases Nat.lt_or_ge j t with hj | hj
   ·exact hj
   ·obtain rfl : j = t := by omega
    rw [h] at r
    exact absurd r.2 (by decide), r.2⟩)]
theorem cntF_yes (h : G (homeN n p t) = true) : cntF n p G (t + 1) = cntF n p G t + 1 := by
 unfold cntF
 rw [List.range_succ, List.countP_append]
 simp [h]
theorem cntF_no (h : G (homeN n p t) = false) : cntF n p G (t + 1) = cntF n p G t := by
 unfold cntF
 rw [List.range_succ, List.countP_append]
 simp [h]
theorem cntF_le : cntF n p G t ≤ t := by
 unfold cntF
 have := List.countP_le_length (p := fun i => G (homeN n p i)) (l := List.range t)
 rwa [List.length_range] at this
theorem cntF_all : cntF n p G n = cntG n G := cntG_home n p G
theorem mapF_got : bodyL (mapF k n kd p g b G n) n n = got k n p b G := by
 unfold bodyL got
 refine List.map_congr_left fun i hi => ?_
 have hi := List.mem_range.1 hi
 rw [if_pos hi, bodyF, mapF]
 by_cases h : G (homeN n p i) = true
 ·rw [if_pos ⟨hi, h⟩, if_pos h]; rfl
 ·rw [if_neg (fun q => h q.2), if_neg h]
theorem mapF_ok (hr : RefOk kd p g b.length (44 * k)) (hk : 1 ≤ k) : ∀ i s, mapF k n kd p g b G t i = some s → s.Ok := by
 intro i s h
 unfold mapF at h
 split at h
 ·injection h with h
  rw [← h]
  exact sh13_ok hr hk
 ·cases h
end
theorem step_loadSh13 {ρ : Operand → Value} {o : Oper} {x : Operand} {w : World} {b : Nat} {s : Sh} (ho : o.op = .load 97 x) (hx : ρ x = .pointer (some ⟨b, 0, none⟩)) (h : ShB w b s) : (execOp ρ o).run Tryz.prog w = .ok (.value (.agg s.cs.toArray)) w := by
 unfold execOp
 simp only [ho, hx, Instr.loadAt, Instr.sureAddr, Sem.run_bind, Sem.run_pure, Result.andThen_ok, run_loadVar_row w b _ 97 s.cs.toArray (0, 0) _ h Tryz.underlying97 rfl (size_shard_a s)]
theorem step_ne13 {ρ : Operand → Value} {o : Oper} {x y : Operand} {w : World} {a b : Int} {t u : TypeId} (ho : o.op = .binOp .neq t x y u) (hx : ρ x = .int .i64 a) (hy : ρ y = .int .i64 b) (hr : ¬ a = b) : (execOp ρ o).run Tryz.prog w = .ok (.value (.bool true)) w := by
 unfold execOp
 simp [ho, hx, hy, go_sem, hr]
theorem size_ref3 (a b c : Value) : (Tryz.prog.info? 34).map (·.size) = some ([a, b, c] : List Value).length := by
 show _ = some 3
 kernel_rfl
theorem step_refAt13 {ρ : Operand → Value} {o : Oper} {x : Operand} {w : World} {B A C p g : Nat} {kd : UInt8} (ho : o.op = .load 34 x) (hx : ρ x = .pointer (some ⟨B, 2, none⟩)) (h : StB w B A C kd p g) : (execOp ρ o).run Tryz.prog w = .ok (.value (.agg #[.int .u8 (kd.toNat : Int), .int .i64 (p : Int), .int .u64 (g : Int)])) w := by
 have hr : w.rangeAt B 2 [.int .u8 (kd.toNat : Int), .int .i64 (p : Int), .int .u64 (g : Int)] := fun j v hv => by
  rcases j with _ | _ | _ | j
  ·simp at hv; subst hv; exact h.c2
  ·simp at hv; subst hv; exact h.c3
  ·simp at hv; subst hv; exact h.c4
  ·simp at hv
 unfold execOp
 simp only [ho, hx, Instr.loadAt, Instr.sureAddr, Sem.run_bind, Sem.run_pure, Result.andThen_ok, run_loadVar_mid w B 2 34 _ _ hr Tryz.underlying34 rfl (size_ref3 _ _ _)]
theorem sroom13 {w : World} {C k m F T R : Nat} (h : Cod w C k m F T) (hR : R = 44 * k) : Calls Tryz.prog 24 #[.pointer (some ⟨C, 0, none⟩)] w fun e w' => e = .returned (.int .i64 (R : Int)) ∧ w' = w := by
 subst hR
 exact sroom_any h
section
variable {Rep : World → (Nat → Prop) → Nat → Dv → Prop} {w : World} {S : Nat → Prop} {A C k m F T N p g : Nat} {kd : UInt8} {xs : List Dv} {b : List UInt8} {G : Nat → Bool}
def RetWh (k n : Nat) (kd : UInt8) (p g : Nat) (b : List UInt8) (G : Nat → Bool) (w : World) (e : Ending) (w' : World) : Prop := ∃ (M z : Nat), e = .returned (.tuple #[.map (some M), .int .u16 (z : Int)]) ∧ Mv w' M (cntG n G) (mapF k n kd p g b G n) ∧ (0 < cntG n G → z = b.length) ∧ z < 65536 ∧ w.heap.size ≤ M ∧ Below w.heap.size w w'
theorem whole_any (DK : DrvK Rep) (h : Ac13 Rep w S A C k m F T N xs) (hr : RefOk kd p g b.length (44 * k)) (hp : p < N) (hs : Str xs k (k + m) N kd p g b G) :
  Calls Tryz.prog 37 #[.agg #[.pointer (some ⟨A, 0, none⟩), .pointer (some ⟨C, 0, none⟩), .int .u8 (kd.toNat : Int), .int .i64 (p : Int), .int .u64 (g : Int)]] w (RetWh k (k + m) kd p g b G w) := by
 obtain ⟨n, hn⟩ : ∃ n, n = k + m := ⟨_, rfl⟩
 obtain ⟨R, hR⟩ : ∃ R, R = 44 * k := ⟨_, rfl⟩
 have hk1 := h.c.k1
 have hq1 : 1 ≤ n := by have := h.c.k1; omega
 have hq2 : n ≤ 255 := by have := h.c.n255; omega
 have hlen : xs.length = n := by rw [h.len, hn]
 have hR2 : R < 65536 := by rw [hR]; exact hr.R
 rw [← hn] at hs ⊢
 have hp9 : p < 9223372036854775808 := by have := hr.p; omega
 have AC := Lib.hid h
 have HRo := Lib.hid hr
 have HS := Lib.hid hs
 have Hn := Lib.hid hn
 have HR := Lib.hid hR
 have Hlen := Lib.hid hlen
 have Hp := Lib.hid hp
 have Hb := Lib.hid (show b.length < 65536 from by have := hr.z; omega)
 have HK1 := Lib.hid hk1
 have hzv := zero_shard
 have hrow : ∀ w', Below w.heap.size w w' → Calls Tryz.prog 71 #[.pointer (some ⟨A, 0, none⟩), .int .i64 (p : Int)] w' fun e w'' => ∃ A' c', e = .returned (.slice A' n c') ∧ Ns cells w'' (fun b => w'.heap.size ≤ b) A' n c' (rowAr xs (p : Int)) ∧ Below w'.heap.size w' w'' := fun w' q => by
  have := arrow_any DK (h.a.later DK.lay q) (p : Int) (by omega) (by omega) (h.wl.mono13 (by decide)) (by omega)
  unfold RetNs at this
  rwa [rowL_len, hlen] at this
 have HRW := Lib.hid hrow
 clear h hr hs hn hR hlen hp hrow hk1
 have hmm := run_makeMap (P := Tryz.prog) 79 (w.alloc (.cells #[.pointer (some ⟨A, 0, none⟩), .pointer (some ⟨C, 0, none⟩), .int .u8 (kd.toNat : Int), .int .i64 (p : Int), .int .u64 (g : Int)] 63))
 rw [show (w.alloc (.cells #[.pointer (some ⟨A, 0, none⟩), .pointer (some ⟨C, 0, none⟩), .int .u8 (kd.toNat : Int), .int .i64 (p : Int), .int .u64 (g : Int)] 63)).heap.size = w.heap.size + 1 from by simp] at hmm
 go_enter Tryz.func37, Tryz.ntmps37
 go_wp2_with fail
 clear hmm
 have hnew : StB ((w.alloc (.cells #[.pointer (some ⟨A, 0, none⟩), .pointer (some ⟨C, 0, none⟩), .int .u8 (kd.toNat : Int), .int .i64 (p : Int), .int .u64 (g : Int)] 63)).alloc (.map #[] 0)) w.heap.size A C kd p g := ((Below.refl _ _).alloc (Nat.le_refl _) _).block _ (by simp) |>.trans (heap_alloc_new w _)
 have hb0 : Below w.heap.size w ((w.alloc (.cells #[.pointer (some ⟨A, 0, none⟩), .pointer (some ⟨C, 0, none⟩), .int .u8 (kd.toNat : Int), .int .i64 (p : Int), .int .u64 (g : Int)] 63)).alloc (.map #[] 0)) := ((Below.refl _ _).alloc (Nat.le_refl _) _).alloc (by simp) _
 have hmv : Mv ((w.alloc (.cells #[.pointer (some ⟨A, 0, none⟩), .pointer (some ⟨C, 0, none⟩), .int .u8 (kd.toNat : Int), .int .i64 (p : Int), .int .u64 (g : Int)] 63)).alloc (.map #[] 0)) (w.heap.size + 1) 0 (mapF k n kd p g b G 0) := by
  have := Mv.made (w.alloc (.cells #[.pointer (some ⟨A, 0, none⟩), .pointer (some ⟨C, 0, none⟩), .int .u8 (kd.toNat : Int), .int .i64 (p : Int), .int .u64 (g : Int)] 63))
  rw [show (w.alloc (.cells #[.pointer (some ⟨A, 0, none⟩), .pointer (some ⟨C, 0, none⟩), .int .u8 (kd.toNat : Int), .int .i64 (p : Int), .int .u64 (g : Int)] 63)).heap.size = w.heap.size + 1 from by simp, mapF_zero (k := k) (n := n) (kd := kd) (p := p) (g := g) (b := b) (G := G)] at this
  exact this
 have hz1 : ((w.alloc (.cells #[.pointer (some ⟨A, 0, none⟩), .pointer (some ⟨C, 0, none⟩), .int .u8 (kd.toNat : Int), .int .i64 (p : Int), .int .u64 (g : Int)] 63)).alloc (.map #[] 0)).heap.size = w.heap.size + 2 := by simp
 obtain ⟨w1, hw1⟩ : ∃ x, x = (w.alloc (.cells #[.pointer (some ⟨A, 0, none⟩), .pointer (some ⟨C, 0, none⟩), .int .u8 (kd.toNat : Int), .int .i64 (p : Int), .int .u64 (g : Int)] 63)).alloc (.map #[] 0) := ⟨_, rfl⟩
 rw [← hw1] at hnew hb0 hmv hz1 ⊢
 obtain ⟨M, hM⟩ : ∃ M, M = w.heap.size + 1 := ⟨_, rfl⟩
 rw [← hM] at hmv ⊢
 obtain ⟨B, hB⟩ : ∃ B, B = w.heap.size := ⟨_, rfl⟩
 have c0 := hnew.c0
 have c1 := hnew.c1
 have c3 := hnew.c3
 rw [← hB] at hnew c0 c1 c3 ⊢
 have Hs := Lib.hid hnew
 have B1 := Lib.hid hb0
 have MV1 := Lib.hid hmv
 have HBM := Lib.hid (show M = w.heap.size + 1 ∧ B = w.heap.size ∧ w1.heap.size = w.heap.size + 2 from ⟨hM, hB, hz1⟩)
 clear hw1 hnew hb0 hmv hM hB hz1
 go_wp2_with fail
 refine (HRW.out w1 B1.out).mono ?_; rintro e w2 ⟨Ar, cr, rfl, hns, hb2⟩
 have B2 := Lib.hid (B1.out.trans (hb2.mono B1.out.size))
 have NS := Lib.hid hns
 have MV2 := Lib.hid (MV1.out.later hb2)
 have Hs2 := Lib.hid (Hs.out.later hb2)
 have C2 := Lib.hid (AC.out.c.later B2.out)
 have N2 := Lib.hid (AC.out.nt.keep B2.out)
 have HNM := Lib.hid (show ∀ x, w1.heap.size ≤ x → ¬ x = M from fun x q r => by have := HBM.out; omega)
 have c1 := Hs2.out.c1
 have hpos2 := hb2.size
 clear hns hb2 c0 c3
 go_wp2_with fail
 refine (cn13 C2.out Hn.out).mono ?_; rintro e w3 ⟨rfl, hb3⟩
 have B3 := Lib.hid (B2.out.trans (hb3.mono B2.out.size))
 have NS3 := Lib.hid (NS.out.later hb3)
 have MV3 := Lib.hid (MV2.out.later hb3)
 have Hs3 := Lib.hid (Hs2.out.later hb3)
 have C3 := Lib.hid (C2.out.later hb3)
 have N3 := Lib.hid (N2.out.keep hb3)
 have HMb := Lib.hid (show ¬ B = M ∧ ¬ C = M ∧ ¬ F = M ∧ ¬ T = M ∧ ¬ 0 = M from by
  have e := HBM.out
  have h1 := block_lt AC.out.c.row
  have h2 := World.block_lt_of_cell? w _ AC.out.c.fld.cell
  have h3 := AC.out.c.fld.fld.ltT
  have h4 := AC.out.nt.lt13
  refine ⟨by omega, by omega, ?_, by omega, by omega⟩
  intro q
  have h2 : F < w.heap.size := h2
  omega)
 clear hb3 c1
 go_wp2_with fail
 go_loopw [5, 20] (fun v i wr => ∃ (t z : Nat), t ≤ n ∧ i = .int .i64 (t : Int) ∧ v = .int .u16 (z : Int) ∧ z < 65536 ∧ Mv wr M (cntF n p G t) (mapF k n kd p g b G t) ∧ (0 < cntF n p G t → z = b.length) ∧ Fr (fun b => b = M) w3 wr) (fun _ i _ => n - (intOf i).toNat)
 case atStart => exact ⟨0, 0, by omega, rfl, rfl, by decide, MV3.out, fun h => absurd h (by unfold cntF; simp), Fr.refl _ _⟩
 case round =>
  obtain ⟨t, z, ht, rfl, rfl, hz, hmv, hzb, hf⟩ := hrel
  have MVr := Lib.hid hmv
  have HZ := Lib.hid hzb
  have Hf := Lib.hid hf
  have Br := Lib.hid (B3.out.trans (hf.below (by have := B3.out.size; omega) (fun x q => by have q : x = M := q; have := HBM.out; omega)))
  by_cases hlt : t < n
  ·have hti : (t : Int) < (n : Int) := by omega
   have Hsr := Lib.hid (Hs3.out.fr hf HMb.out.1)
   have Cr := Lib.hid (C3.out.fr hf HMb.out.2.1 HMb.out.2.2.1 HMb.out.2.2.2.1)
   have Nr := Lib.hid (N3.out.fr13 hf HMb.out.2.2.2.2)
   have NSr := Lib.hid (NS3.out.fr hf (fun x q => HNM.out x q))
   obtain ⟨d, hd⟩ : ∃ d, d = homeN n p t := ⟨_, rfl⟩
   have hdn : d < n := by rw [hd]; exact home_lt (by omega)
   obtain ⟨x, hx⟩ : ∃ x, xs[d]? = some x := ⟨_, List.getElem?_eq_getElem (by rw [Hlen.out]; exact hdn)⟩
   have hcase := HS.out.read HK1.out HRo.out Hp.out hlt hq2 (x := x) (by rw [← hd]; exact hx)
   rw [← hd] at hcase
   obtain ⟨l, hl⟩ : ∃ l, l = x.readL (p : Int) := ⟨_, rfl⟩
   rw [← hl] at hcase
   have hrl : (rowAr xs (p : Int))[d]? = some l := by rw [rowL_at hx, hl]
   obtain ⟨s, hs⟩ : ∃ s, s = getS l := ⟨_, rfl⟩
   obtain ⟨E, hE⟩ : ∃ E, E = getE l := ⟨_, rfl⟩
   rw [← hs, ← hE] at hcase
   have SOK := Lib.hid (show s.Ok from by rw [hs]; exact getS_ok l)
   have Hdh := Lib.hid hd
   have Hrl := Lib.hid hrl
   have Hse := Lib.hid (show s = getS l ∧ E = getE l from ⟨hs, hE⟩)
   have hcase := Lib.hid hcase
   clear hd hx hl hrl hs hE hmv hzb hf
   go_wp2_with (refine at_dst11 (d := 25) ?_; refine wpList_step11 (o := ⟨some 25, _, _, _, _, _⟩) rfl _ wr (step_st13 (x := .tmp 1) rfl rfl Hsr.out) ?_)
   refine (sthome_any (A := A) (kd := kd) (g := g) Cr.out Hn.out hp9 (show t < 9223372036854775808 by omega)).mono ?_; rintro e w4 ⟨rfl, hb4⟩
   rw [← Hdh.out]
   have B4 := Lib.hid (Br.out.trans (hb4.mono Br.out.size))
   have hdi : (d : Int) < (n : Int) := by omega
   have F4 := Lib.hid (Hf.out.trans (Fr.of_below hb4 : Fr (fun b => b = M) wr w4))
   have Hs4 := Lib.hid (Hsr.out.later hb4)
   have C4 := Lib.hid (Cr.out.later hb4)
   have N4 := Lib.hid (Nr.out.keep hb4)
   have M4 := Lib.hid (MVr.out.later hb4)
   obtain ⟨bR, oR, rfl, _, hcR⟩ := (NSr.out.later hb4).at_ (by omega)
   obtain ⟨A5, c5, hc5, hs5, _⟩ := hcR d l Hrl.out
   have hg := sget_any A5 l.length c5 l w4 hs5 N4.out
   rw [← Hse.out.1, ← Hse.out.2] at hg
   clear hb4 hcR hs5
   go_wp2_with fail
   refine hg.mono ?_; clear hg; rintro e w5 ⟨rfl, hb5⟩
   have B5 := Lib.hid (B4.out.trans (hb5.mono B4.out.size))
   have F5 := Lib.hid (F4.out.trans (Fr.of_below hb5 : Fr (fun b => b = M) w4 w5))
   have Hs5 := Lib.hid (Hs4.out.later hb5)
   have C5 := Lib.hid (C4.out.later hb5)
   have M5 := Lib.hid (M4.out.later hb5)
   obtain ⟨w6, hw6⟩ : ∃ u, u = w5.alloc (.cells s.cs.toArray 97) := ⟨_, rfl⟩
   have hb6 : Below w5.heap.size w5 w6 := by rw [hw6]; exact (Below.refl _ _).alloc (Nat.le_refl _) _
   have X6 := Lib.hid (show ShB w6 w5.heap.size s by rw [hw6]; exact ShB.new w5 s)
   have B6 := Lib.hid (B5.out.trans (hb6.mono B5.out.size))
   have F6 := Lib.hid (F5.out.trans (Fr.of_below hb6 : Fr (fun b => b = M) w5 w6))
   have Hs6 := Lib.hid (Hs5.out.later hb6)
   have C6 := Lib.hid (C5.out.later hb6)
   have M6 := Lib.hid (M5.out.later hb6)
   have Hw6 := Lib.hid hw6
   have HDM := Lib.hid (show ¬ w5.heap.size = M from by have := M5.out.lt; omega)
   clear hb5 hb6 hw6 hc5
   go_wp2_with (first
    | (refine at_none11 ?_; refine wpList_store_shard (o := ⟨none, _, _, _, _, _⟩) rfl (.tmp 8) (.tmp 31) rfl w5 s rfl rfl ?_; rw [← Hw6.out]))
   obtain ⟨D, hD⟩ : ∃ D, D = w5.heap.size := ⟨_, rfl⟩
   rw [← hD] at X6 HDM ⊢
   clear hD Hw6 B4 B5 F4 F5 Hs4 Hs5 C4 C5 M4 M5 N4 Hrl Hse Hsr Cr Nr NSr MVr Br Hf
   rcases hcase.out with ⟨hG, hE0, hsh⟩ | ⟨hG, hE0 | ⟨hE0, hB⟩ | ⟨hE0, hB, hbig⟩⟩
   ·subst hE0
    have hwz : IntKind.i64.wrap (s.size : Int) = (s.size : Int) := by rw [IntKind.wrap_i64]; have := SOK.out.size; omega
    have hB : isB s kd (p : Int) g (t : Int) = true := by rw [hsh]; exact sh13_is (by omega)
    have hle : ¬ (R : Int) < (s.size : Int) := by
     have e : s.size = b.length := by rw [hsh]; rfl
     have := HRo.out.z
     rw [e, HR.out]
     omega
    have Hsz := Lib.hid (show s.size = b.length from by rw [hsh]; rfl)
    have Hsh := Lib.hid hsh
    have HG := Lib.hid (show G (homeN n p t) = true from Hdh.out ▸ hG)
    clear hsh hG
    refine wp_region_held_drew (S := fun w' => Fr (fun _ => False) w6.drew w') (by kernel_rfl) (Fr.refl _ _) (fun hHeld => ?_)
    clear hHeld
    refine tL (i := 0) (d := some 33) (v := ?vwd0) rfl ?ywd0 (Fr.refl _ _) ?rwd0
    case ywd0 =>
     intro wq hSw
     (try dsimp only at hSw)
     go_simp <;> with_reducible rfl
    try simp only [Act.put,sA,sB,sC]
    refine tL (i := 1) (d := some 34) (v := ?vwd1) rfl ?ywd1 (Fr.refl _ _) ?rwd1
    case ywd1 =>
     intro wq hSw
     (try dsimp only at hSw)
     go_simp <;> with_reducible rfl
    try simp only [Act.put,sA,sB,sC]
    refine tL (i := 2) (d := some 35) (v := ?vwd2) rfl ?ywd2 (Fr.refl _ _) ?rwd2
    case ywd2 =>
     intro wq hSw
     (try dsimp only at hSw)
     go_simp <;> with_reducible rfl
    try simp only [Act.put,sA,sB,sC]
    refine tL (i := 3) (d := some 36) (v := (.agg s.cs.toArray)) rfl ?ywd3 (Fr.refl _ _) ?rwd3
    case ywd3 =>
     intro wq hSw
     exact step_loadSh13 (x := .tmp 8) rfl rfl (ShB.fr (S := fun _ => False) (show ShB w6.drew D s from X6.out) hSw (fun h => h))
    try simp only [Act.put,sA,sB,sC]
    refine tL (i := 4) (d := some 37) (v := ?vwd4) rfl ?ywd4 (Fr.refl _ _) ?rwd4
    case ywd4 =>
     intro wq hSw
     (try dsimp only at hSw)
     go_simp <;> with_reducible rfl
    try simp only [Act.put,sA,sB,sC]
    refine tL (i := 5) (d := some 38) (v := (.agg #[.int .u8 (kd.toNat : Int), .int .i64 (p : Int), .int .u64 (g : Int)])) rfl ?ywd5 (Fr.refl _ _) ?rwd5
    case ywd5 =>
     intro wq hSw
     exact step_refAt13 (x := .tmp 37) rfl rfl (StB.fr (S := fun _ => False) (show StB w6.drew B A C kd p g from Hs6.out) hSw (fun h => h))
    try simp only [Act.put,sA,sB,sC]
    refine tL (i := 6) (d := some 39) (v := ?vwd6) rfl ?ywd6 (Fr.refl _ _) ?rwd6
    case ywd6 =>
     intro wq hSw
     (try dsimp only at hSw)
     go_simp <;> with_reducible rfl
    try simp only [Act.put,sA,sB,sC]
    refine rW (i := 7) (d := some 40) rfl fun K hK => ?_
    go_simp
    have hh := is_any s SOK.out kd (p : Int) g (t : Int) w6.drew
    rw [hB] at hh
    refine hh.mono ?_; clear hh; rintro e w7 ⟨rfl, hb7⟩
    have hfr : Fr (fun _ => False) w6.drew w7 := Fr.of_below hb7
    have hbb : Below w6.heap.size w6 w7 := (Below.drew (Below.refl w6.heap.size w6)).trans hb7
    have B7 := Lib.hid (B6.out.trans (hbb.mono B6.out.size))
    have F7 := Lib.hid (F6.out.trans (Fr.of_below hbb : Fr (fun b => b = M) w6 w7))
    have M7 := Lib.hid (M6.out.later hbb)
    have C7 := Lib.hid (C6.out.later hbb)
    have X7 := Lib.hid (X6.out.later hbb)
    have Hs7 := Lib.hid (Hs6.out.later hbb)
    clear hb7 hbb
    go_wp2_with fail
    refine hK.out _ _ hfr (fun hHeld => ?_)
    clear hK K hHeld
    try simp only [Act.put,sA,sB,sC]
    refine wpAnyH_re (S' := fun w' => Fr (fun _ => False) w7 w') (fun w' h => hfr.trans h) ?_
    clear hfr
    refine tL (i := 8) (d := some 41) (v := ?vwd8) rfl ?ywd8 (Fr.refl _ _) ?rwd8
    case ywd8 =>
     intro wq hSw
     (try dsimp only at hSw)
     go_simp <;> with_reducible rfl
    try simp only [Act.put,sA,sB,sC]
    refine tL (i := 9) (d := some 42) (v := ?vwd9) rfl ?ywd9 (Fr.refl _ _) ?rwd9
    case ywd9 =>
     intro wq hSw
     (try dsimp only at hSw)
     go_simp <;> with_reducible rfl
    try simp only [Act.put,sA,sB,sC]
    refine tL (i := 10) (d := some 43) (v := ?vwd10) rfl ?ywd10 (Fr.refl _ _) ?rwd10
    case ywd10 =>
     intro wq hSw
     (try dsimp only at hSw)
     go_simp <;> with_reducible rfl
    try simp only [Act.put,sA,sB,sC]
    refine tL (i := 11) (d := some 44) (v := ?vwd11) rfl ?ywd11 (Fr.refl _ _) ?rwd11
    case ywd11 =>
     intro wq hSw
     (try dsimp only at hSw)
     go_simp <;> with_reducible rfl
    try simp only [Act.put,sA,sB,sC]
    refine tL (i := 12) (d := some 45) (v := ?vwd12) rfl ?ywd12 (Fr.refl _ _) ?rwd12
    case ywd12 =>
     intro wq hSw
     (try dsimp only at hSw)
     have hq := hSw.cell_some X7.out.z (fun h => h)
     go_simp <;> with_reducible rfl
    try simp only [Act.put,sA,sB,sC]
    refine tL (i := 13) (d := some 46) (v := ?vwd13) rfl ?ywd13 (Fr.refl _ _) ?rwd13
    case ywd13 =>
     intro wq hSw
     (try dsimp only at hSw)
     go_simp <;> with_reducible rfl
    try simp only [Act.put,sA,sB,sC]
    refine tL (i := 14) (d := some 47) (v := ?vwd14) rfl ?ywd14 (Fr.refl _ _) ?rwd14
    case ywd14 =>
     intro wq hSw
     (try dsimp only at hSw)
     go_simp <;> with_reducible rfl
    try simp only [Act.put,sA,sB,sC]
    refine tL (i := 15) (d := some 48) (v := ?vwd15) rfl ?ywd15 (Fr.refl _ _) ?rwd15
    case ywd15 =>
     intro wq hSw
     (try dsimp only at hSw)
     have hq := hSw.cell_some Hs7.out.c1 (fun h => h)
     go_simp <;> with_reducible rfl
    try simp only [Act.put,sA,sB,sC]
    refine rW (i := 16) (d := some 49) rfl fun K hK => ?_
    go_simp
    refine (sroom13 C7.out HR.out).mono ?_; rintro e w8 ⟨rfl, hw8⟩
    subst hw8
    have hfr : Fr (fun _ => False) w8 w8 := Fr.refl _ _
    go_wp2_with fail
    refine hK.out _ _ hfr (fun hHeld => ?_)
    clear hK K hHeld
    try simp only [Act.put,sA,sB,sC]
    refine wpAnyH_re (S' := fun w' => Fr (fun _ => False) w8 w') (fun w' h => hfr.trans h) ?_
    clear hfr
    refine tL (i := 17) (d := some 50) (v := ?vwd17) rfl ?ywd17 (Fr.refl _ _) ?rwd17
    case ywd17 =>
     intro wq hSw
     (try dsimp only at hSw)
     go_simp <;> with_reducible rfl
    try simp only [Act.put,sA,sB,sC]
    refine tL (i := 18) (d := some 51) (v := ?vwd18) rfl ?ywd18 (Fr.refl _ _) ?rwd18
    case ywd18 =>
     intro wq hSw
     (try dsimp only at hSw)
     go_simp <;> with_reducible rfl
    try simp only [Act.put,sA,sB,sC]
    refine tD ?_
    have hln := M7.out.len 3
    have xz := X7.out.z
    have hsz9 : cntF n p G t = 0 ∨ (((cntF n p G t : Nat) : Int) == 0) = false := by
     rcases Nat.eq_zero_or_pos (cntF n p G t) with q | q
     ·exact .inl q
     ·exact .inr (by simp; omega)
    obtain ⟨w9, hup, hfu, hmu⟩ := M7.out.upd t (by omega) mapF_none (by have := cntF_le (n := n) (p := p) (G := G) (t := t); omega) s
    have HMU := Lib.hid (show Mv w9 M (cntF n p G (t + 1)) (mapF k n kd p g b G (t + 1)) from by rw [cntF_yes HG.out, ← mapF_yes HG.out, ← Hsh.out]; exact hmu)
    have F9 := Lib.hid (F7.out.trans hfu)
    clear hfu hmu hB
    obtain ⟨y, hy⟩ : ∃ y, y = s.size := ⟨_, rfl⟩
    rw [← hy] at xz
    have Hy := Lib.hid (show y = b.length from hy.trans Hsz.out)
    have hy2 : y < 65536 := by rw [hy, Hsz.out]; exact Hb.out
    clear hy
    obtain ⟨c, hc⟩ : ∃ c, c = cntF n p G t := ⟨_, rfl⟩
    rw [← hc] at hln hsz9
    have Hc := Lib.hid hc
    clear hc
    rcases hsz9 with rfl | hcn
    ·go_wp2_with (first
      | (refine at_dst11 (d := 63) ?_; refine wpList_step11 (o := ⟨some 63, _, _, _, _, _⟩) rfl _ w8 (step_loadSh13 (x := .tmp 8) rfl rfl X7.out) ?_))
     go_roundw
     case rel => exact ⟨t + 1, y, by omega, by go_num, rfl, hy2, HMU.out, fun _ => Hy.out, F9.out⟩
     case measure => simp [intOf]; omega
    ·have hzy : z = y := by
      have hcn : ¬ (c : Int) = 0 := by simpa using hcn
      first | exact HZ.out.trans Hy.out.symm | exact (HZ.out (by have := Hc.out; omega)).trans Hy.out.symm
     subst hzy
     go_wp2_with (first
      | (refine at_dst11 (d := 63) ?_; refine wpList_step11 (o := ⟨some 63, _, _, _, _, _⟩) rfl _ w8 (step_loadSh13 (x := .tmp 8) rfl rfl X7.out) ?_))
     go_roundw
     case rel => exact ⟨t + 1, z, by omega, by go_num, rfl, hy2, HMU.out, fun _ => Hy.out, F9.out⟩
     case measure => simp [intOf]; omega
   ·have hE1 : ¬ (E : Int) = 0 := by omega
    clear hE0
    have HM := Lib.hid (show Mv w6.drew M (cntF n p G (t + 1)) (mapF k n kd p g b G (t + 1)) from by rw [cntF_no (Hdh.out ▸ hG), ← mapF_no (Hdh.out ▸ hG)]; exact M6.out.later (Below.drew (Below.refl _ _)))
    have HC := Lib.hid (show 0 < cntF n p G (t + 1) → z = b.length from by rw [cntF_no (Hdh.out ▸ hG)]; exact HZ.out)
    clear hG
    refine wp_region_held_drew (S := fun w' => Fr (fun _ => False) w6.drew w') (by kernel_rfl) (Fr.refl _ _) (fun hHeld => ?_)
    clear hHeld
    refine tL (i := 0) (d := some 33) (v := ?vwa0) rfl ?ywa0 (Fr.refl _ _) ?rwa0
    case ywa0 =>
     intro wq hSw
     (try dsimp only at hSw)
     go_simp <;> with_reducible rfl
    try simp only [Act.put,sA,sB,sC]
    refine tL (i := 1) (d := some 34) (v := (.bool true)) rfl ?ywa1 (Fr.refl _ _) ?rwa1
    case ywa1 =>
     intro wq hSw
     exact step_ne13 (x := .tmp 33) (y := .const (.int .i64 0)) rfl rfl rfl hE1
    try simp only [Act.put,sA,sB,sC]
    refine tL (i := 2) (d := some 35) (v := ?vwa2) rfl ?ywa2 (Fr.refl _ _) ?rwa2
    case ywa2 =>
     intro wq hSw
     (try dsimp only at hSw)
     go_simp <;> with_reducible rfl
    try simp only [Act.put,sA,sB,sC]
    refine tU (i := 3) (d := some 36) rfl (Fr.refl _ _) ?rwa3
    try simp only [Act.put,sA,sB,sC]
    refine tU (i := 4) (d := some 37) rfl (Fr.refl _ _) ?rwa4
    try simp only [Act.put,sA,sB,sC]
    refine tU (i := 5) (d := some 38) rfl (Fr.refl _ _) ?rwa5
    try simp only [Act.put,sA,sB,sC]
    refine tU (i := 6) (d := some 39) rfl (Fr.refl _ _) ?rwa6
    try simp only [Act.put,sA,sB,sC]
    refine tU (i := 7) (d := some 40) rfl (Fr.refl _ _) ?rwa7
    try simp only [Act.put,sA,sB,sC]
    refine tU (i := 8) (d := some 41) rfl (Fr.refl _ _) ?rwa8
    try simp only [Act.put,sA,sB,sC]
    refine tL (i := 9) (d := some 42) (v := ?vwa9) rfl ?ywa9 (Fr.refl _ _) ?rwa9
    case ywa9 =>
     intro wq hSw
     (try dsimp only at hSw)
     go_simp <;> with_reducible rfl
    try simp only [Act.put,sA,sB,sC]
    refine tL (i := 10) (d := some 43) (v := ?vwa10) rfl ?ywa10 (Fr.refl _ _) ?rwa10
    case ywa10 =>
     intro wq hSw
     (try dsimp only at hSw)
     go_simp <;> with_reducible rfl
    try simp only [Act.put,sA,sB,sC]
    refine tU (i := 11) (d := some 44) rfl (Fr.refl _ _) ?rwa11
    try simp only [Act.put,sA,sB,sC]
    refine tU (i := 12) (d := some 45) rfl (Fr.refl _ _) ?rwa12
    try simp only [Act.put,sA,sB,sC]
    refine tU (i := 13) (d := some 46) rfl (Fr.refl _ _) ?rwa13
    try simp only [Act.put,sA,sB,sC]
    refine tU (i := 14) (d := some 47) rfl (Fr.refl _ _) ?rwa14
    try simp only [Act.put,sA,sB,sC]
    refine tU (i := 15) (d := some 48) rfl (Fr.refl _ _) ?rwa15
    try simp only [Act.put,sA,sB,sC]
    refine tU (i := 16) (d := some 49) rfl (Fr.refl _ _) ?rwa16
    try simp only [Act.put,sA,sB,sC]
    refine tU (i := 17) (d := some 50) rfl (Fr.refl _ _) ?rwa17
    try simp only [Act.put,sA,sB,sC]
    refine tL (i := 18) (d := some 51) (v := ?vwa18) rfl ?ywa18 (Fr.refl _ _) ?rwa18
    case ywa18 =>
     intro wq hSw
     (try dsimp only at hSw)
     go_simp <;> with_reducible rfl
    try simp only [Act.put,sA,sB,sC]
    refine tD ?_
    go_wp2_with fail
    go_roundw
    case rel => exact ⟨t + 1, z, by omega, by go_num, rfl, hz, HM.out, HC.out, F6.out.trans (Fr.drew (Fr.refl _ _))⟩
    case measure => simp [intOf]; omega
   ·subst hE0
    refine wp_region_held_drew (S := fun w' => Fr (fun _ => False) w6.drew w') (by kernel_rfl) (Fr.refl _ _) (fun hHeld => ?_)
    clear hHeld
    refine tL (i := 0) (d := some 33) (v := ?vwb0) rfl ?ywb0 (Fr.refl _ _) ?rwb0
    case ywb0 =>
     intro wq hSw
     (try dsimp only at hSw)
     go_simp <;> with_reducible rfl
    try simp only [Act.put,sA,sB,sC]
    refine tL (i := 1) (d := some 34) (v := ?vwb1) rfl ?ywb1 (Fr.refl _ _) ?rwb1
    case ywb1 =>
     intro wq hSw
     (try dsimp only at hSw)
     go_simp <;> with_reducible rfl
    try simp only [Act.put,sA,sB,sC]
    refine tL (i := 2) (d := some 35) (v := ?vwb2) rfl ?ywb2 (Fr.refl _ _) ?rwb2
    case ywb2 =>
     intro wq hSw
     (try dsimp only at hSw)
     go_simp <;> with_reducible rfl
    try simp only [Act.put,sA,sB,sC]
    refine tL (i := 3) (d := some 36) (v := (.agg s.cs.toArray)) rfl ?ywb3 (Fr.refl _ _) ?rwb3
    case ywb3 =>
     intro wq hSw
     exact step_loadSh13 (x := .tmp 8) rfl rfl (ShB.fr (S := fun _ => False) (show ShB w6.drew D s from X6.out) hSw (fun h => h))
    try simp only [Act.put,sA,sB,sC]
    refine tL (i := 4) (d := some 37) (v := ?vwb4) rfl ?ywb4 (Fr.refl _ _) ?rwb4
    case ywb4 =>
     intro wq hSw
     (try dsimp only at hSw)
     go_simp <;> with_reducible rfl
    try simp only [Act.put,sA,sB,sC]
    refine tL (i := 5) (d := some 38) (v := (.agg #[.int .u8 (kd.toNat : Int), .int .i64 (p : Int), .int .u64 (g : Int)])) rfl ?ywb5 (Fr.refl _ _) ?rwb5
    case ywb5 =>
     intro wq hSw
     exact step_refAt13 (x := .tmp 37) rfl rfl (StB.fr (S := fun _ => False) (show StB w6.drew B A C kd p g from Hs6.out) hSw (fun h => h))
    try simp only [Act.put,sA,sB,sC]
    refine tL (i := 6) (d := some 39) (v := ?vwb6) rfl ?ywb6 (Fr.refl _ _) ?rwb6
    case ywb6 =>
     intro wq hSw
     (try dsimp only at hSw)
     go_simp <;> with_reducible rfl
    try simp only [Act.put,sA,sB,sC]
    refine rW (i := 7) (d := some 40) rfl fun K hK => ?_
    go_simp
    have hh := is_any s SOK.out kd (p : Int) g (t : Int) w6.drew
    rw [hB] at hh
    refine hh.mono ?_; clear hh; rintro e w7 ⟨rfl, hb7⟩
    have hfr : Fr (fun _ => False) w6.drew w7 := Fr.of_below hb7
    have hbb : Below w6.heap.size w6 w7 := (Below.drew (Below.refl w6.heap.size w6)).trans hb7
    have B7 := Lib.hid (B6.out.trans (hbb.mono B6.out.size))
    have F7 := Lib.hid (F6.out.trans (Fr.of_below hbb : Fr (fun b => b = M) w6 w7))
    have M7 := Lib.hid (M6.out.later hbb)
    have C7 := Lib.hid (C6.out.later hbb)
    have X7 := Lib.hid (X6.out.later hbb)
    have Hs7 := Lib.hid (Hs6.out.later hbb)
    clear hb7 hbb
    go_wp2_with fail
    refine hK.out _ _ hfr (fun hHeld => ?_)
    clear hK K hHeld
    try simp only [Act.put,sA,sB,sC]
    refine wpAnyH_re (S' := fun w' => Fr (fun _ => False) w7 w') (fun w' h => hfr.trans h) ?_
    clear hfr
    refine tL (i := 8) (d := some 41) (v := ?vwb8) rfl ?ywb8 (Fr.refl _ _) ?rwb8
    case ywb8 =>
     intro wq hSw
     (try dsimp only at hSw)
     go_simp <;> with_reducible rfl
    try simp only [Act.put,sA,sB,sC]
    refine tL (i := 9) (d := some 42) (v := ?vwb9) rfl ?ywb9 (Fr.refl _ _) ?rwb9
    case ywb9 =>
     intro wq hSw
     (try dsimp only at hSw)
     go_simp <;> with_reducible rfl
    try simp only [Act.put,sA,sB,sC]
    refine tL (i := 10) (d := some 43) (v := ?vwb10) rfl ?ywb10 (Fr.refl _ _) ?rwb10
    case ywb10 =>
     intro wq hSw
     (try dsimp only at hSw)
     go_simp <;> with_reducible rfl
    try simp only [Act.put,sA,sB,sC]
    refine tU (i := 11) (d := some 44) rfl (Fr.refl _ _) ?rwb11
    try simp only [Act.put,sA,sB,sC]
    refine tU (i := 12) (d := some 45) rfl (Fr.refl _ _) ?rwb12
    try simp only [Act.put,sA,sB,sC]
    refine tU (i := 13) (d := some 46) rfl (Fr.refl _ _) ?rwb13
    try simp only [Act.put,sA,sB,sC]
    refine tU (i := 14) (d := some 47) rfl (Fr.refl _ _) ?rwb14
    try simp only [Act.put,sA,sB,sC]
    refine tU (i := 15) (d := some 48) rfl (Fr.refl _ _) ?rwb15
    try simp only [Act.put,sA,sB,sC]
    refine tU (i := 16) (d := some 49) rfl (Fr.refl _ _) ?rwb16
    try simp only [Act.put,sA,sB,sC]
    refine tU (i := 17) (d := some 50) rfl (Fr.refl _ _) ?rwb17
    try simp only [Act.put,sA,sB,sC]
    refine tL (i := 18) (d := some 51) (v := ?vwb18) rfl ?ywb18 (Fr.refl _ _) ?rwb18
    case ywb18 =>
     intro wq hSw
     (try dsimp only at hSw)
     go_simp <;> with_reducible rfl
    try simp only [Act.put,sA,sB,sC]
    refine tD ?_
    have HM := Lib.hid (show Mv w7 M (cntF n p G (t + 1)) (mapF k n kd p g b G (t + 1)) from by rw [cntF_no (Hdh.out ▸ hG), ← mapF_no (Hdh.out ▸ hG)]; exact M7.out)
    have HC := Lib.hid (show 0 < cntF n p G (t + 1) → z = b.length from by rw [cntF_no (Hdh.out ▸ hG)]; exact HZ.out)
    clear hG
    go_wp2_with fail
    go_roundw
    case rel => exact ⟨t + 1, z, by omega, by go_num, rfl, hz, HM.out, HC.out, F7.out⟩
    case measure => simp [intOf]; omega
   ·subst hE0
    have hwz : IntKind.i64.wrap (s.size : Int) = (s.size : Int) := by rw [IntKind.wrap_i64]; have := SOK.out.size; omega
    have hbg : (R : Int) < (s.size : Int) := by rw [HR.out]; omega
    clear hbig
    refine wp_region_held_drew (S := fun w' => Fr (fun _ => False) w6.drew w') (by kernel_rfl) (Fr.refl _ _) (fun hHeld => ?_)
    clear hHeld
    refine tL (i := 0) (d := some 33) (v := ?vwc0) rfl ?ywc0 (Fr.refl _ _) ?rwc0
    case ywc0 =>
     intro wq hSw
     (try dsimp only at hSw)
     go_simp <;> with_reducible rfl
    try simp only [Act.put,sA,sB,sC]
    refine tL (i := 1) (d := some 34) (v := ?vwc1) rfl ?ywc1 (Fr.refl _ _) ?rwc1
    case ywc1 =>
     intro wq hSw
     (try dsimp only at hSw)
     go_simp <;> with_reducible rfl
    try simp only [Act.put,sA,sB,sC]
    refine tL (i := 2) (d := some 35) (v := ?vwc2) rfl ?ywc2 (Fr.refl _ _) ?rwc2
    case ywc2 =>
     intro wq hSw
     (try dsimp only at hSw)
     go_simp <;> with_reducible rfl
    try simp only [Act.put,sA,sB,sC]
    refine tL (i := 3) (d := some 36) (v := (.agg s.cs.toArray)) rfl ?ywc3 (Fr.refl _ _) ?rwc3
    case ywc3 =>
     intro wq hSw
     exact step_loadSh13 (x := .tmp 8) rfl rfl (ShB.fr (S := fun _ => False) (show ShB w6.drew D s from X6.out) hSw (fun h => h))
    try simp only [Act.put,sA,sB,sC]
    refine tL (i := 4) (d := some 37) (v := ?vwc4) rfl ?ywc4 (Fr.refl _ _) ?rwc4
    case ywc4 =>
     intro wq hSw
     (try dsimp only at hSw)
     go_simp <;> with_reducible rfl
    try simp only [Act.put,sA,sB,sC]
    refine tL (i := 5) (d := some 38) (v := (.agg #[.int .u8 (kd.toNat : Int), .int .i64 (p : Int), .int .u64 (g : Int)])) rfl ?ywc5 (Fr.refl _ _) ?rwc5
    case ywc5 =>
     intro wq hSw
     exact step_refAt13 (x := .tmp 37) rfl rfl (StB.fr (S := fun _ => False) (show StB w6.drew B A C kd p g from Hs6.out) hSw (fun h => h))
    try simp only [Act.put,sA,sB,sC]
    refine tL (i := 6) (d := some 39) (v := ?vwc6) rfl ?ywc6 (Fr.refl _ _) ?rwc6
    case ywc6 =>
     intro wq hSw
     (try dsimp only at hSw)
     go_simp <;> with_reducible rfl
    try simp only [Act.put,sA,sB,sC]
    refine rW (i := 7) (d := some 40) rfl fun K hK => ?_
    go_simp
    have hh := is_any s SOK.out kd (p : Int) g (t : Int) w6.drew
    rw [hB] at hh
    refine hh.mono ?_; clear hh; rintro e w7 ⟨rfl, hb7⟩
    have hfr : Fr (fun _ => False) w6.drew w7 := Fr.of_below hb7
    have hbb : Below w6.heap.size w6 w7 := (Below.drew (Below.refl w6.heap.size w6)).trans hb7
    have B7 := Lib.hid (B6.out.trans (hbb.mono B6.out.size))
    have F7 := Lib.hid (F6.out.trans (Fr.of_below hbb : Fr (fun b => b = M) w6 w7))
    have M7 := Lib.hid (M6.out.later hbb)
    have C7 := Lib.hid (C6.out.later hbb)
    have X7 := Lib.hid (X6.out.later hbb)
    have Hs7 := Lib.hid (Hs6.out.later hbb)
    clear hb7 hbb
    go_wp2_with fail
    refine hK.out _ _ hfr (fun hHeld => ?_)
    clear hK K hHeld
    try simp only [Act.put,sA,sB,sC]
    refine wpAnyH_re (S' := fun w' => Fr (fun _ => False) w7 w') (fun w' h => hfr.trans h) ?_
    clear hfr
    refine tL (i := 8) (d := some 41) (v := ?vwc8) rfl ?ywc8 (Fr.refl _ _) ?rwc8
    case ywc8 =>
     intro wq hSw
     (try dsimp only at hSw)
     go_simp <;> with_reducible rfl
    try simp only [Act.put,sA,sB,sC]
    refine tL (i := 9) (d := some 42) (v := ?vwc9) rfl ?ywc9 (Fr.refl _ _) ?rwc9
    case ywc9 =>
     intro wq hSw
     (try dsimp only at hSw)
     go_simp <;> with_reducible rfl
    try simp only [Act.put,sA,sB,sC]
    refine tL (i := 10) (d := some 43) (v := ?vwc10) rfl ?ywc10 (Fr.refl _ _) ?rwc10
    case ywc10 =>
     intro wq hSw
     (try dsimp only at hSw)
     go_simp <;> with_reducible rfl
    try simp only [Act.put,sA,sB,sC]
    refine tL (i := 11) (d := some 44) (v := ?vwc11) rfl ?ywc11 (Fr.refl _ _) ?rwc11
    case ywc11 =>
     intro wq hSw
     (try dsimp only at hSw)
     go_simp <;> with_reducible rfl
    try simp only [Act.put,sA,sB,sC]
    refine tL (i := 12) (d := some 45) (v := ?vwc12) rfl ?ywc12 (Fr.refl _ _) ?rwc12
    case ywc12 =>
     intro wq hSw
     (try dsimp only at hSw)
     have hq := hSw.cell_some X7.out.z (fun h => h)
     go_simp <;> with_reducible rfl
    try simp only [Act.put,sA,sB,sC]
    refine tL (i := 13) (d := some 46) (v := ?vwc13) rfl ?ywc13 (Fr.refl _ _) ?rwc13
    case ywc13 =>
     intro wq hSw
     (try dsimp only at hSw)
     go_simp <;> with_reducible rfl
    try simp only [Act.put,sA,sB,sC]
    refine tL (i := 14) (d := some 47) (v := ?vwc14) rfl ?ywc14 (Fr.refl _ _) ?rwc14
    case ywc14 =>
     intro wq hSw
     (try dsimp only at hSw)
     go_simp <;> with_reducible rfl
    try simp only [Act.put,sA,sB,sC]
    refine tL (i := 15) (d := some 48) (v := ?vwc15) rfl ?ywc15 (Fr.refl _ _) ?rwc15
    case ywc15 =>
     intro wq hSw
     (try dsimp only at hSw)
     have hq := hSw.cell_some Hs7.out.c1 (fun h => h)
     go_simp <;> with_reducible rfl
    try simp only [Act.put,sA,sB,sC]
    refine rW (i := 16) (d := some 49) rfl fun K hK => ?_
    go_simp
    refine (sroom13 C7.out HR.out).mono ?_; rintro e w8 ⟨rfl, hw8⟩
    subst hw8
    have hfr : Fr (fun _ => False) w8 w8 := Fr.refl _ _
    go_wp2_with fail
    refine hK.out _ _ hfr (fun hHeld => ?_)
    clear hK K hHeld
    try simp only [Act.put,sA,sB,sC]
    refine wpAnyH_re (S' := fun w' => Fr (fun _ => False) w8 w') (fun w' h => hfr.trans h) ?_
    clear hfr
    refine tL (i := 17) (d := some 50) (v := ?vwc17) rfl ?ywc17 (Fr.refl _ _) ?rwc17
    case ywc17 =>
     intro wq hSw
     (try dsimp only at hSw)
     go_simp <;> with_reducible rfl
    try simp only [Act.put,sA,sB,sC]
    refine tL (i := 18) (d := some 51) (v := ?vwc18) rfl ?ywc18 (Fr.refl _ _) ?rwc18
    case ywc18 =>
     intro wq hSw
     (try dsimp only at hSw)
     go_simp <;> with_reducible rfl
    try simp only [Act.put,sA,sB,sC]
    refine tD ?_
    have HM := Lib.hid (show Mv w8 M (cntF n p G (t + 1)) (mapF k n kd p g b G (t + 1)) from by rw [cntF_no (Hdh.out ▸ hG), ← mapF_no (Hdh.out ▸ hG)]; exact M7.out)
    have HC := Lib.hid (show 0 < cntF n p G (t + 1) → z = b.length from by rw [cntF_no (Hdh.out ▸ hG)]; exact HZ.out)
    clear hG
    go_wp2_with fail
    go_roundw
    case rel => exact ⟨t + 1, z, by omega, by go_num, rfl, hz, HM.out, HC.out, F7.out⟩
    case measure => simp [intOf]; omega
  ·obtain rfl : t = n := by omega
   have HX := Lib.hid (show Mv wr M (cntG t G) (mapF k t kd p g b G t) from by rw [← cntF_all (p := p)]; exact hmv)
   have HZz := Lib.hid (show 0 < cntG t G → z = b.length from by rw [← cntF_all (p := p)]; exact hzb)
   clear hmv hzb hf
   go_wp2_with fail
   go_ret2
   exact ⟨M, z, rfl, HX.out, HZz.out, hz, by have := HBM.out; omega, Br.out⟩
end
end Go.Proofs.YtajdholblmdnjaaGreatDoor

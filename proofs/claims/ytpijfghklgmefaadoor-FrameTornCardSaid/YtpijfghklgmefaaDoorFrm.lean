/-
  Contract of package frame's taker of a blob. Conditions: bounds. (Written by gen_frm.py.)
-/
import Derived.Test.YtpijfghklgmefaaDoorFrl
namespace Go.Proofs.YtpijfghklgmefaaDoor
open Go.RowKit Go.Proofs
set_option linter.unusedVariables false
set_option maxRecDepth 20000
set_option maxHeartbeats 3200000

theorem anyB_any (A : Option Addr) (n c : Nat) (g q : Int) (w : World) : Calls Tryd.prog 39 #[.agg #[.slice A n c, .int .u64 g, .int .i64 q]] w fun e w' => e = .returned (.bool true) ∧ Below w.heap.size w w' := by
  go_enter Tryd.func39, Tryd.ntmps39
  go_wp2_with fail
  go_ret
  exact ⟨rfl, (Below.refl _ _).alloc (Nat.le_refl _) _⟩
theorem step_loadB {ρ : Operand → Value} {o : Oper} {x : Operand} {w : World} {B n c g : Nat} {A : Option Addr} {q : Int} (ho : o.op = .load 55 x) (hx : ρ x = .pointer (some ⟨B, 0, none⟩)) (h : BlB w B A n c g q) : (execOp ρ o).run Tryd.prog w = .ok (.value (.agg #[.slice A n c, .int .u64 (g : Int), .int .i64 q])) w := by
  unfold execOp
  simp only [ho, hx, Instr.loadAt, Instr.sureAddr, Sem.run_bind, Sem.run_pure, Result.andThen_ok, run_loadVar_row w B _ 55 #[.slice A n c, .int .u64 (g : Int), .int .i64 q] (0, 0) _ h Tryd.underlying55 rfl (size_bl17 _ _ _ _ _)]
theorem BlB.fr {w w' : World} {B n c g : Nat} {A : Option Addr} {q : Int} {S : Nat → Prop} (h : BlB w B A n c g q) (hf : Fr S w w') (hS : ¬ S B) : BlB w' B A n c g q := hf.row_some h hS
/-- The blob that is taken. -/
def zB : GbF := ⟨0, 0, [], 0, 0⟩
def tkB (l : List UInt8) (s : Nat × Nat) : GbF × (Nat × Nat) :=
  if s.2 ≠ 0 then (zB, s) else if (gB l s.1).e ≠ 0 then (zB, (s.1, (gB l s.1).e)) else (gB l s.1, ((gB l s.1).p, 0))
def RetTB (R : Nat) (A : Option Addr) (n c : Nat) (l : List UInt8) (x : GbF × (Nat × Nat)) (w : World) (e : Ending) (w' : World) : Prop :=
  ∃ PA pc, e = .returned (.agg #[.slice PA x.1.ps.length pc, .int .u64 (x.1.g : Int), .int .i64 (x.1.q : Int)]) ∧ Sl w' 1 PA x.1.ps.length pc (icells (natsI x.1.ps)) ∧ Rdg w' R A n c l x.2 ∧ Fr (fun k => k = R) w w' ∧ ∀ b o, 0 < x.1.ps.length → PA = some ⟨b, o, none⟩ → w.heap.size ≤ b
theorem ftakeB (R t g p : Nat) (A : Option Addr) (n c : Nat) (l : List UInt8) (s : Nat × Nat) (w : World) (h : Rdg w R A n c l s) (hk : Tk3 w t g p R (.func (.func 38) #[] #[]) (.func (.func 39) #[] #[])) :
    Calls Tryd.prog 61 #[.pointer (some ⟨t, 0, none⟩), .pointer (some ⟨g, 0, none⟩), .pointer (some ⟨p, 0, none⟩)] w (RetTB R A n c l (tkB l s) w) := by
  obtain ⟨at_, fault⟩ := s
  obtain ⟨b3, hb3⟩ : ∃ b, b = w.heap.size := ⟨_, rfl⟩
  have ha1 : Below w.heap.size w (w.alloc (.cells #[.slice none 0 0, .int .u64 0, .int .i64 0] 55)) := (Below.refl _ _).alloc (Nat.le_refl _) _
  have hx1 : BlB (w.alloc (.cells #[.slice none 0 0, .int .u64 0, .int .i64 0] 55)) w.heap.size none 0 0 0 0 := heap_alloc_new w _
  obtain ⟨w1, hw1⟩ : ∃ x, x = w.alloc (.cells #[.slice none 0 0, .int .u64 0, .int .i64 0] 55) := ⟨_, rfl⟩
  rw [← hw1] at ha1 hx1
  have HW1 := Lib.hid hw1
  obtain ⟨b4, hb4⟩ : ∃ b, b = w1.heap.size := ⟨_, rfl⟩
  have ha2 : Below w1.heap.size w1 (w1.alloc (.cells #[.slice none 0 0, .int .u64 0, .int .i64 0] 55)) := (Below.refl _ _).alloc (Nat.le_refl _) _
  have hx2 : BlB (w1.alloc (.cells #[.slice none 0 0, .int .u64 0, .int .i64 0] 55)) w1.heap.size none 0 0 0 0 := heap_alloc_new w1 _
  obtain ⟨w2, hw2⟩ : ∃ x, x = w1.alloc (.cells #[.slice none 0 0, .int .u64 0, .int .i64 0] 55) := ⟨_, rfl⟩
  rw [← hw2] at ha2 hx2
  have HW2 := Lib.hid hw2
  have hx1 := hx1.later ha2
  have hB2 := ha1.trans (ha2.mono ha1.size)
  have RR := Lib.hid (h.later hB2)
  have KK := Lib.hid (hk.later hB2)
  have hRl := h.lt
  have b4l := block_lt hx2
  rw [← hb3] at hx1 hRl
  rw [← hb4] at hx2 b4l
  have X3 := Lib.hid hx1
  have X4 := Lib.hid hx2
  have B2 := Lib.hid (show Below b3 w w2 from by rw [hb3]; exact hB2)
  have b3l := block_lt hx1
  have NR3 := Lib.hid (show ¬ b3 = R from by omega)
  have NR4 := Lib.hid (show ¬ b4 = R from by have := ha1.size; omega)
  have NR2 := Lib.hid (show ¬ w2.heap.size ≤ R from by have := hB2.size; omega)
  have NA2 := Lib.hid (show ∀ b o, 0 < n → A = some ⟨b, o, none⟩ → ¬ w2.heap.size ≤ b from fun b o hn e => by have := h.sl.lt (by decide) hn e; have := hB2.size; omega)
  have NA3 := Lib.hid (show ∀ b o, 0 < n → A = some ⟨b, o, none⟩ → ¬ b = b3 from fun b o hn e => by have := h.sl.lt (by decide) hn e; omega)
  have HB3 := Lib.hid hb3
  have HB4 := Lib.hid hb4
  have LT3 := Lib.hid (And.intro b3l b4l)
  have kt := KK.out.t.cell
  have r2 := RR.out.c2
  have HSZ := fun (A' : Option Addr) (n' c' : Nat) (g' q' : Int) => Lib.hid (size_bl17 A' n' c' g' q')
  have HON := fun (A' : Option Addr) (n' c' : Nat) (g' q' : Int) => Lib.hid (one_bl17 A' n' c' g' q')
  clear h hk hw1 hw2 ha1 ha2 hx1 hx2 hB2 hRl b3l b4l
  have hb3' := hb3
  dsimp only at r2
  by_cases hf : fault = 0
  · subst hf
    have hgb := fun W (hs : Sl W 1 A n c (cells l)) => getBytes17 A n c l at_ W hs
    obtain ⟨x, hx⟩ : ∃ x, x = gB l at_ := ⟨_, rfl⟩
    have ht : tkB l (at_, 0) = if x.e ≠ 0 then (zB, (at_, x.e)) else (x, (x.p, 0)) := by unfold tkB; rw [if_neg (by simp), hx]
    rw [ht]
    rw [← hx] at hgb
    have HG := Lib.hid hgb
    clear hgb ht hx
    by_cases he : x.e = 0
    · rw [if_neg (fun hh => hh he)]
      have HE := Lib.hid he
      have hez : (x.e : Int) = 0 := by omega
      have HEZ := Lib.hid hez
      clear he hez
      go_enter Tryd.func61, Tryd.ntmps61
      go_wp2_with (first | (rw [← HW1.out]) | (rw [← HW2.out]))
      rw [← hb3, ← hb4]
      clear hb3 hb3' hb4
      refine wp_region_held_drew (S := fun w' => Fr (fun k => w2.heap.size ≤ k) w2 w') (by kernel_rfl) (Fr.drew (Fr.refl _ _)) (fun hHeld => ?_)
      clear hHeld
      have hHeld : Fr (fun k => w2.heap.size ≤ k) w2 w2.drew := Fr.drew (Fr.refl _ _)
      have hz_0 : w2.heap.size ≤ w2.drew.heap.size := Nat.le_refl _
      obtain ⟨v_1, hw⟩ : ∃ v_1, v_1 = w2.drew := ⟨_, rfl⟩
      rw [← hw] at hHeld hz_0  ⊢
      clear hw
      refine wpAnyH_take (i := 0) (oi := ⟨some 15, _, _, _, _, _⟩) (v := ?vg0_2) rfl (by kernel_rfl) (by kernel_rfl) (by kernel_rfl) (fun _ _ _ h => h) (Or.inl ⟨by rfl, ?yg0_2⟩) hHeld ?rg0_2
      case yg0_2 =>
        intro wq hSw
        (try dsimp only at hSw)
        have hq := (KK.out.g.fr hSw (by have := KK.out.g.lt; show ¬ w2.heap.size ≤ _; omega)).cell
        first | (go_simp; done) | (go_simp; with_reducible rfl)
      try simp only [Act.put, List.setIfInBounds_toArray, List.set_cons_zero, List.set_cons_succ]
      refine wpAnyH_take (i := 1) (oi := ⟨some 16, _, _, _, _, _⟩) (v := ?vg1_3) rfl (by kernel_rfl) (by kernel_rfl) (by kernel_rfl) (fun _ _ _ h => h) (Or.inl ⟨by rfl, ?yg1_3⟩) hHeld ?rg1_3
      case yg1_3 =>
        intro wq hSw
        (try dsimp only at hSw)
        have hq := (KK.out.t.fr hSw (by have := KK.out.t.lt; show ¬ w2.heap.size ≤ _; omega)).cell
        first | (go_simp; done) | (go_simp; with_reducible rfl)
      try simp only [Act.put, List.setIfInBounds_toArray, List.set_cons_zero, List.set_cons_succ]
      refine wpAnyH_take (i := 2) (oi := ⟨some 17, _, _, _, _, _⟩) (v := ?vg2_4) rfl (by kernel_rfl) (by kernel_rfl) (by kernel_rfl) (fun _ _ _ h => h) (Or.inl ⟨by rfl, ?yg2_4⟩) hHeld ?rg2_4
      case yg2_4 =>
        intro wq hSw
        (try dsimp only at hSw)
        first | (go_simp; done) | (go_simp; with_reducible rfl)
      try simp only [Act.put, List.setIfInBounds_toArray, List.set_cons_zero, List.set_cons_succ]
      refine wpAnyH_take (i := 3) (oi := ⟨some 18, _, _, _, _, _⟩) (v := ?vg3_5) rfl (by kernel_rfl) (by kernel_rfl) (by kernel_rfl) (fun _ _ _ h => h) (Or.inl ⟨by rfl, ?yg3_5⟩) hHeld ?rg3_5
      case yg3_5 =>
        intro wq hSw
        (try dsimp only at hSw)
        first | (go_simp; done) | (go_simp; with_reducible rfl)
      try simp only [Act.put, List.setIfInBounds_toArray, List.set_cons_zero, List.set_cons_succ]
      refine wpAnyH_take (i := 4) (oi := ⟨some 19, _, _, _, _, _⟩) (v := ?vg4_6) rfl (by kernel_rfl) (by kernel_rfl) (by kernel_rfl) (fun _ _ _ h => h) (Or.inl ⟨by rfl, ?yg4_6⟩) hHeld ?rg4_6
      case yg4_6 =>
        intro wq hSw
        (try dsimp only at hSw)
        have hq := (RR.out.fr hSw NR2.out NA2.out).c0
        first | (go_simp; done) | (go_simp; with_reducible rfl)
      try simp only [Act.put, List.setIfInBounds_toArray, List.set_cons_zero, List.set_cons_succ]
      refine wpAnyH_take (i := 5) (oi := ⟨some 20, _, _, _, _, _⟩) (v := ?vg5_7) rfl (by kernel_rfl) (by kernel_rfl) (by kernel_rfl) (fun _ _ _ h => h) (Or.inl ⟨by rfl, ?yg5_7⟩) hHeld ?rg5_7
      case yg5_7 =>
        intro wq hSw
        (try dsimp only at hSw)
        have hq := (KK.out.t.fr hSw (by have := KK.out.t.lt; show ¬ w2.heap.size ≤ _; omega)).cell
        first | (go_simp; done) | (go_simp; with_reducible rfl)
      try simp only [Act.put, List.setIfInBounds_toArray, List.set_cons_zero, List.set_cons_succ]
      refine wpAnyH_take (i := 6) (oi := ⟨some 21, _, _, _, _, _⟩) (v := ?vg6_8) rfl (by kernel_rfl) (by kernel_rfl) (by kernel_rfl) (fun _ _ _ h => h) (Or.inl ⟨by rfl, ?yg6_8⟩) hHeld ?rg6_8
      case yg6_8 =>
        intro wq hSw
        (try dsimp only at hSw)
        first | (go_simp; done) | (go_simp; with_reducible rfl)
      try simp only [Act.put, List.setIfInBounds_toArray, List.set_cons_zero, List.set_cons_succ]
      refine wpAnyH_take (i := 7) (oi := ⟨some 22, _, _, _, _, _⟩) (v := ?vg7_9) rfl (by kernel_rfl) (by kernel_rfl) (by kernel_rfl) (fun _ _ _ h => h) (Or.inl ⟨by rfl, ?yg7_9⟩) hHeld ?rg7_9
      case yg7_9 =>
        intro wq hSw
        (try dsimp only at hSw)
        first | (go_simp; done) | (go_simp; with_reducible rfl)
      try simp only [Act.put, List.setIfInBounds_toArray, List.set_cons_zero, List.set_cons_succ]
      refine wpAnyH_take (i := 8) (oi := ⟨some 23, _, _, _, _, _⟩) (v := ?vg8_10) rfl (by kernel_rfl) (by kernel_rfl) (by kernel_rfl) (fun _ _ _ h => h) (Or.inl ⟨by rfl, ?yg8_10⟩) hHeld ?rg8_10
      case yg8_10 =>
        intro wq hSw
        (try dsimp only at hSw)
        have hq := (RR.out.fr hSw NR2.out NA2.out).c1
        first | (go_simp; done) | (go_simp; with_reducible rfl)
      try simp only [Act.put, List.setIfInBounds_toArray, List.set_cons_zero, List.set_cons_succ]
      refine wpAnyH_ready (rs := [9, 14]) (by kernel_rfl) (by simp) ?_
      refine AllReadyH.cons (o := ⟨some 24, _, _, _, _, _⟩) rfl (fun K hK => ?_) (AllReadyH.cons (o := ⟨some 5, _, _, _, _, _⟩) rfl (fun K hK => ?_) (AllReadyH.nil))
      · go_simp
        refine (HG.out v_1 (RR.out.sl.fr hHeld NA2.out)).mono ?_; rintro e' v_11 ⟨PA, pc, rfl, hs9, hb9, hl9⟩
        have hfN : Fr (fun k => w2.heap.size ≤ k) v_1 v_11 := Fr.of_below hb9
        have S9 := Lib.hid hs9
        clear hs9
        have PNR := Lib.hid (show ∀ b o, 0 < x.ps.length → PA = some ⟨b, o, none⟩ → ¬ b = R from fun b o hn e => by have := hl9 b o hn e; have := hHeld.size; have := NR2.out; omega)
        have PN3 := Lib.hid (show ∀ b o, 0 < x.ps.length → PA = some ⟨b, o, none⟩ → ¬ b = b3 from fun b o hn e => by have := hl9 b o hn e; have := hHeld.size; have := LT3.out; omega)
        have PNW := Lib.hid (show ∀ b o, 0 < x.ps.length → PA = some ⟨b, o, none⟩ → w.heap.size ≤ b from fun b o hn e => by have := hl9 b o hn e; have := hHeld.size; have := B2.out.size; omega)
        clear hl9
        go_wp2_with fail
        have hHeld := hHeld.trans hfN
        have hz_12 := hfN.size
        refine hK.out _ _ hHeld (fun _ => ?_)
        clear hK K hfN
        try simp only [Act.put, List.setIfInBounds_toArray, List.set_cons_zero, List.set_cons_succ]
        refine wpAnyH_take (i := 10) (oi := ⟨some 14, _, _, _, _, _⟩) (v := ?vg10_13) rfl (by kernel_rfl) (by kernel_rfl) (by kernel_rfl) (fun _ _ _ h => h) (Or.inl ⟨by rfl, ?yg10_13⟩) hHeld ?rg10_13
        case yg10_13 =>
          intro wq hSw
          (try dsimp only at hSw)
          first | (go_simp; done) | (go_simp; with_reducible rfl)
        try simp only [Act.put, List.setIfInBounds_toArray, List.set_cons_zero, List.set_cons_succ]
        refine wpAnyH_take (i := 11) (oi := ⟨some 25, _, _, _, _, _⟩) (v := ?vg11_14) rfl (by kernel_rfl) (by kernel_rfl) (by kernel_rfl) (fun _ _ _ h => h) (Or.inl ⟨by rfl, ?yg11_14⟩) hHeld ?rg11_14
        case yg11_14 =>
          intro wq hSw
          (try dsimp only at hSw)
          first | (go_simp; done) | (go_simp; with_reducible rfl)
        try simp only [Act.put, List.setIfInBounds_toArray, List.set_cons_zero, List.set_cons_succ]
        refine wpAnyH_take (i := 12) (oi := ⟨some 26, _, _, _, _, _⟩) (v := ?vg12_15) rfl (by kernel_rfl) (by kernel_rfl) (by kernel_rfl) (fun _ _ _ h => h) (Or.inl ⟨by rfl, ?yg12_15⟩) hHeld ?rg12_15
        case yg12_15 =>
          intro wq hSw
          (try dsimp only at hSw)
          first | (go_simp; done) | (go_simp; with_reducible rfl)
        try simp only [Act.put, List.setIfInBounds_toArray, List.set_cons_zero, List.set_cons_succ]
        refine wpAnyH_take (i := 13) (oi := ⟨some 27, _, _, _, _, _⟩) (v := ?vg13_16) rfl (by kernel_rfl) (by kernel_rfl) (by kernel_rfl) (fun _ _ _ h => h) (Or.inl ⟨by rfl, ?yg13_16⟩) hHeld ?rg13_16
        case yg13_16 =>
          intro wq hSw
          (try dsimp only at hSw)
          first | (go_simp; done) | (go_simp; with_reducible rfl)
        try simp only [Act.put, List.setIfInBounds_toArray, List.set_cons_zero, List.set_cons_succ]
        refine wpAnyH_ready (rs := [14]) (by kernel_rfl) (by simp) ?_
        refine AllReadyH.cons (o := ⟨some 5, _, _, _, _, _⟩) rfl (fun K hK => ?_) (AllReadyH.nil)
        go_simp
        obtain ⟨g5, hg5⟩ : ∃ g, g = v_11.heap.size := ⟨_, rfl⟩
        have hbN : Below v_11.heap.size v_11 (v_11.alloc (.cells #[.slice none 0 0, .int .u64 0, .int .i64 0] 55)) := (Below.refl _ _).alloc (Nat.le_refl _) _
        have hx5 : BlB (v_11.alloc (.cells #[.slice none 0 0, .int .u64 0, .int .i64 0] 55)) v_11.heap.size none 0 0 0 0 := heap_alloc_new v_11 _
        have hgl := block_lt hx5
        obtain ⟨v_17, hw⟩ : ∃ x, x = v_11.alloc (.cells #[.slice none 0 0, .int .u64 0, .int .i64 0] 55) := ⟨_, rfl⟩
        rw [← hw] at hbN hx5 hgl ⊢
        rw [← hg5] at hx5 hgl ⊢
        have hfN : Fr (fun k => w2.heap.size ≤ k) v_11 v_17 := Fr.of_below hbN
        have Z5 := Lib.hid hx5
        have G5 := Lib.hid hgl
        have GE5 := Lib.hid (show w2.heap.size ≤ g5 from by rw [hg5]; exact hHeld.size)
        have PN5 := Lib.hid (show ∀ b o, 0 < x.ps.length → PA = some ⟨b, o, none⟩ → ¬ b = g5 from fun b o hn e => by have := S9.out.lt (by decide) hn e; omega)
        have S9 := Lib.hid (S9.out.below hbN (Nat.le_refl _))
        clear hx5 hgl hw hg5 hbN
        have hHeld := hHeld.trans hfN
        have hz_18 := hfN.size
        refine hK.out _ _ hHeld (fun _ => ?_)
        clear hK K hfN
        try simp only [Act.put, List.setIfInBounds_toArray, List.set_cons_zero, List.set_cons_succ]
        refine wpAnyH_ready (rs := [15]) (by kernel_rfl) (by simp) ?_
        refine AllReadyH.cons (o := ⟨none, _, _, _, _, _⟩) rfl (fun K hK => ?_) (AllReadyH.nil)
        have hz := HSZ PA x.ps.length pc (x.g : Int) (x.q : Int)
        have ho := HON PA x.ps.length pc (x.g : Int) (x.q : Int)
        refine wp_store_row (o := ⟨none, _, _, _, _, _⟩) 55 (.tmp 5) (.tmp 25) rfl g5 _ rfl rfl 55 _ Z5.out hz.out rfl ho.out ?_
        have hfx : Fr (fun k => k = g5) v_17 (v_17.setRow g5 #[.slice PA x.ps.length pc, .int .u64 (x.g : Int), .int .i64 (x.q : Int)]) := Fr.setRow17 (S := fun k => k = g5) (Fr.refl _ _) (.inr rfl) _
        have hx6 : BlB (v_17.setRow g5 #[.slice PA x.ps.length pc, .int .u64 (x.g : Int), .int .i64 (x.q : Int)]) g5 PA x.ps.length pc x.g (x.q : Int) := setRow_heap _ _ _ _ _ _ Z5.out
        obtain ⟨w6, hw⟩ : ∃ y, y = v_17.setRow g5 #[.slice PA x.ps.length pc, .int .u64 (x.g : Int), .int .i64 (x.q : Int)] := ⟨_, rfl⟩
        rw [← hw] at hfx hx6 ⊢
        have hfN : Fr (fun k => w2.heap.size ≤ k) v_17 w6 := hfx.mono (fun k h => by have h : k = g5 := h; show _ ≤ k; have := GE5.out; omega)
        have Z6 := Lib.hid hx6
        have S6 := Lib.hid (show Sl w6 1 PA x.ps.length pc (icells (natsI x.ps)) from S9.out.fr hfx (fun b o hn e h => PN5.out b o hn e h))
        clear hw hx6 hfx hz ho
        have hHeld := hHeld.trans hfN
        have hz_19 := hfN.size
        refine hK.out _ _ hHeld (fun _ => ?_)
        clear hK K hfN
        try simp only [Act.put]
        refine wpAnyH_take (i := 16) (oi := ⟨some 6, _, _, _, _, _⟩) (v := ?vg16_20) rfl (by kernel_rfl) (by kernel_rfl) (by kernel_rfl) (fun _ _ _ h => h) (Or.inl ⟨by rfl, ?yg16_20⟩) hHeld ?rg16_20
        case yg16_20 =>
          intro wq hSw
          (try dsimp only at hSw)
          first | (go_simp; done) | (go_simp; with_reducible rfl)
        try simp only [Act.put, List.setIfInBounds_toArray, List.set_cons_zero, List.set_cons_succ]
        refine wpAnyH_take (i := 17) (oi := ⟨some 7, _, _, _, _, _⟩) (v := ?vg17_21) rfl (by kernel_rfl) (by kernel_rfl) (by kernel_rfl) (fun _ _ _ h => h) (Or.inl ⟨by rfl, ?yg17_21⟩) hHeld ?rg17_21
        case yg17_21 =>
          intro wq hSw
          (try dsimp only at hSw)
          first | (go_simp; done) | (go_simp; with_reducible rfl)
        try simp only [Act.put, List.setIfInBounds_toArray, List.set_cons_zero, List.set_cons_succ]
        refine wpAnyH_done (by kernel_rfl) ?_ _
        have RR6 := Lib.hid (RR.out.fr hHeld NR2.out NA2.out)
        have KK6 := Lib.hid (KK.out.fr hHeld (by have := KK.out.t.lt; show ¬ w2.heap.size ≤ _; omega) (by have := KK.out.g.lt; show ¬ w2.heap.size ≤ _; omega) (by have := KK.out.p.lt; show ¬ w2.heap.size ≤ _; omega))
        have X36 := Lib.hid (X3.out.fr hHeld (by have := LT3.out; show ¬ w2.heap.size ≤ _; omega))
        have X46 := Lib.hid (X4.out.fr hHeld (by have := LT3.out; show ¬ w2.heap.size ≤ _; omega))
        have B6 := Lib.hid (B2.out.trans (hHeld.below (show b3 ≤ w2.heap.size from by have := LT3.out; omega) (fun k h => by have h : w2.heap.size ≤ k := h; have := LT3.out; omega)))
        have GR := Lib.hid (show ¬ g5 = R from by have := GE5.out; have := NR2.out; omega)
        clear hHeld kt r2
        have kt := KK6.out.t.cell
        have kp := KK6.out.p.cell
        have hez := HEZ.out
        go_wp2_with (refine at_dst17 (d := 32) ?_; refine wpList_step17 (o := ⟨some 32, _, _, _, _, _⟩) (by rfl) _ _ (step_loadB rfl rfl Z6.out) ?_)
        refine (anyB_any PA x.ps.length pc (x.g : Int) (x.q : Int) w6).mono ?_; rintro e w8 ⟨rfl, hb8⟩
        have RR8 := Lib.hid (RR6.out.later hb8)
        have X38 := Lib.hid (X36.out.later hb8)
        have Z8 := Lib.hid (Z6.out.later hb8)
        have S8 := Lib.hid (S6.out.below hb8 (Nat.le_refl _))
        have B8 := Lib.hid (B6.out.trans (hb8.mono (show b3 ≤ w6.heap.size from by have := B6.out.size; have := HB3.out; omega)))
        have kt := (KK6.out.later hb8).t.cell
        have hs1 := RR8.out.set1 x.p
        have HS1 := Lib.hid hs1
        have r1 := RR8.out.c1
        have f1 := RR8.out.free 1
        have ZZ := Lib.hid (Z8.out.fr hs1.2 GR.out)
        have XX := Lib.hid (X38.out.fr hs1.2 NR3.out)
        have hz := HSZ PA x.ps.length pc (x.g : Int) (x.q : Int)
        have ho := HON PA x.ps.length pc (x.g : Int) (x.q : Int)
        clear hb8 kp hez hs1
        go_wp2_with (first | (refine at_dst17 (d := 47) ?_; refine wpList_step17 (o := ⟨some 47, _, _, _, _, _⟩) (by rfl) _ _ (step_loadB rfl rfl ZZ.out) ?_) | (refine at_none17 ?_; refine wpList_store_row (o := ⟨none, _, _, _, _, _⟩) rfl 55 (.tmp 3) (.tmp 47) rfl b3 _ rfl rfl 55 _ XX.out hz.out rfl ho.out ?_))
        refine bodyPost_ret (results_cell_row Tryd.results61 _ _ b3 55 _ (0, 0) _ rfl (setRow_heap _ _ _ _ _ _ XX.out) Tryd.underlying55 rfl hz.out) rfl ?_
        have hs1 := HS1.out
        have hfw := (Fr.of_below (S := fun k => k = R) (show Below w.heap.size w w8 from HB3.out ▸ B8.out)).trans hs1.2
        have hfs := Fr.setRow17 (S := fun k => k = b3) (Fr.refl _ (w8.setCell ⟨R, 1, none⟩ (.int .i64 (x.p : Int)))) (.inr rfl) #[.slice PA x.ps.length pc, .int .u64 (x.g : Int), .int .i64 (x.q : Int)]
        have hfz := hfw.setRow17 (.inl (by have := HB3.out; omega)) (g := b3) #[.slice PA x.ps.length pc, .int .u64 (x.g : Int), .int .i64 (x.q : Int)]
        exact ⟨PA, pc, rfl, (S8.out.fr hs1.2 PNR.out).fr hfs PN3.out, hs1.1.fr hfs (fun h => NR3.out h.symm) NA3.out, hfz, PNW.out⟩
      · go_simp
        obtain ⟨g5, hg5⟩ : ∃ g, g = v_1.heap.size := ⟨_, rfl⟩
        have hbN : Below v_1.heap.size v_1 (v_1.alloc (.cells #[.slice none 0 0, .int .u64 0, .int .i64 0] 55)) := (Below.refl _ _).alloc (Nat.le_refl _) _
        have hx5 : BlB (v_1.alloc (.cells #[.slice none 0 0, .int .u64 0, .int .i64 0] 55)) v_1.heap.size none 0 0 0 0 := heap_alloc_new v_1 _
        have hgl := block_lt hx5
        obtain ⟨v_22, hw⟩ : ∃ x, x = v_1.alloc (.cells #[.slice none 0 0, .int .u64 0, .int .i64 0] 55) := ⟨_, rfl⟩
        rw [← hw] at hbN hx5 hgl ⊢
        rw [← hg5] at hx5 hgl ⊢
        have hfN : Fr (fun k => w2.heap.size ≤ k) v_1 v_22 := Fr.of_below hbN
        have Z5 := Lib.hid hx5
        have G5 := Lib.hid hgl
        have GE5 := Lib.hid (show w2.heap.size ≤ g5 from by rw [hg5]; exact hHeld.size)
        clear hx5 hgl hw hg5 hbN
        have hHeld := hHeld.trans hfN
        have hz_23 := hfN.size
        refine hK.out _ _ hHeld (fun _ => ?_)
        clear hK K hfN
        try simp only [Act.put, List.setIfInBounds_toArray, List.set_cons_zero, List.set_cons_succ]
        refine wpAnyH_ready (rs := [9]) (by kernel_rfl) (by simp) ?_
        refine AllReadyH.cons (o := ⟨some 24, _, _, _, _, _⟩) rfl (fun K hK => ?_) (AllReadyH.nil)
        go_simp
        refine (HG.out v_22 (RR.out.sl.fr hHeld NA2.out)).mono ?_; rintro e' v_24 ⟨PA, pc, rfl, hs9, hb9, hl9⟩
        have hfN : Fr (fun k => w2.heap.size ≤ k) v_22 v_24 := Fr.of_below hb9
        have S9 := Lib.hid hs9
        clear hs9
        have PNR := Lib.hid (show ∀ b o, 0 < x.ps.length → PA = some ⟨b, o, none⟩ → ¬ b = R from fun b o hn e => by have := hl9 b o hn e; have := hHeld.size; have := NR2.out; omega)
        have PN3 := Lib.hid (show ∀ b o, 0 < x.ps.length → PA = some ⟨b, o, none⟩ → ¬ b = b3 from fun b o hn e => by have := hl9 b o hn e; have := hHeld.size; have := LT3.out; omega)
        have PNW := Lib.hid (show ∀ b o, 0 < x.ps.length → PA = some ⟨b, o, none⟩ → w.heap.size ≤ b from fun b o hn e => by have := hl9 b o hn e; have := hHeld.size; have := B2.out.size; omega)
        have Z5 := Lib.hid (Z5.out.later hb9)
        have PN5 := Lib.hid (show ∀ b o, 0 < x.ps.length → PA = some ⟨b, o, none⟩ → ¬ b = g5 from fun b o hn e => by have := hl9 b o hn e; have := G5.out; omega)
        have G5 := Lib.hid (Nat.lt_of_lt_of_le G5.out hb9.size)
        clear hl9
        go_wp2_with fail
        have hHeld := hHeld.trans hfN
        have hz_25 := hfN.size
        refine hK.out _ _ hHeld (fun _ => ?_)
        clear hK K hfN
        try simp only [Act.put, List.setIfInBounds_toArray, List.set_cons_zero, List.set_cons_succ]
        refine wpAnyH_take (i := 10) (oi := ⟨some 14, _, _, _, _, _⟩) (v := ?vg10_26) rfl (by kernel_rfl) (by kernel_rfl) (by kernel_rfl) (fun _ _ _ h => h) (Or.inl ⟨by rfl, ?yg10_26⟩) hHeld ?rg10_26
        case yg10_26 =>
          intro wq hSw
          (try dsimp only at hSw)
          first | (go_simp; done) | (go_simp; with_reducible rfl)
        try simp only [Act.put, List.setIfInBounds_toArray, List.set_cons_zero, List.set_cons_succ]
        refine wpAnyH_take (i := 11) (oi := ⟨some 25, _, _, _, _, _⟩) (v := ?vg11_27) rfl (by kernel_rfl) (by kernel_rfl) (by kernel_rfl) (fun _ _ _ h => h) (Or.inl ⟨by rfl, ?yg11_27⟩) hHeld ?rg11_27
        case yg11_27 =>
          intro wq hSw
          (try dsimp only at hSw)
          first | (go_simp; done) | (go_simp; with_reducible rfl)
        try simp only [Act.put, List.setIfInBounds_toArray, List.set_cons_zero, List.set_cons_succ]
        refine wpAnyH_take (i := 12) (oi := ⟨some 26, _, _, _, _, _⟩) (v := ?vg12_28) rfl (by kernel_rfl) (by kernel_rfl) (by kernel_rfl) (fun _ _ _ h => h) (Or.inl ⟨by rfl, ?yg12_28⟩) hHeld ?rg12_28
        case yg12_28 =>
          intro wq hSw
          (try dsimp only at hSw)
          first | (go_simp; done) | (go_simp; with_reducible rfl)
        try simp only [Act.put, List.setIfInBounds_toArray, List.set_cons_zero, List.set_cons_succ]
        refine wpAnyH_take (i := 13) (oi := ⟨some 27, _, _, _, _, _⟩) (v := ?vg13_29) rfl (by kernel_rfl) (by kernel_rfl) (by kernel_rfl) (fun _ _ _ h => h) (Or.inl ⟨by rfl, ?yg13_29⟩) hHeld ?rg13_29
        case yg13_29 =>
          intro wq hSw
          (try dsimp only at hSw)
          first | (go_simp; done) | (go_simp; with_reducible rfl)
        try simp only [Act.put, List.setIfInBounds_toArray, List.set_cons_zero, List.set_cons_succ]
        refine wpAnyH_ready (rs := [15]) (by kernel_rfl) (by simp) ?_
        refine AllReadyH.cons (o := ⟨none, _, _, _, _, _⟩) rfl (fun K hK => ?_) (AllReadyH.nil)
        have hz := HSZ PA x.ps.length pc (x.g : Int) (x.q : Int)
        have ho := HON PA x.ps.length pc (x.g : Int) (x.q : Int)
        refine wp_store_row (o := ⟨none, _, _, _, _, _⟩) 55 (.tmp 5) (.tmp 25) rfl g5 _ rfl rfl 55 _ Z5.out hz.out rfl ho.out ?_
        have hfx : Fr (fun k => k = g5) v_24 (v_24.setRow g5 #[.slice PA x.ps.length pc, .int .u64 (x.g : Int), .int .i64 (x.q : Int)]) := Fr.setRow17 (S := fun k => k = g5) (Fr.refl _ _) (.inr rfl) _
        have hx6 : BlB (v_24.setRow g5 #[.slice PA x.ps.length pc, .int .u64 (x.g : Int), .int .i64 (x.q : Int)]) g5 PA x.ps.length pc x.g (x.q : Int) := setRow_heap _ _ _ _ _ _ Z5.out
        obtain ⟨w6, hw⟩ : ∃ y, y = v_24.setRow g5 #[.slice PA x.ps.length pc, .int .u64 (x.g : Int), .int .i64 (x.q : Int)] := ⟨_, rfl⟩
        rw [← hw] at hfx hx6 ⊢
        have hfN : Fr (fun k => w2.heap.size ≤ k) v_24 w6 := hfx.mono (fun k h => by have h : k = g5 := h; show _ ≤ k; have := GE5.out; omega)
        have Z6 := Lib.hid hx6
        have S6 := Lib.hid (show Sl w6 1 PA x.ps.length pc (icells (natsI x.ps)) from S9.out.fr hfx (fun b o hn e h => PN5.out b o hn e h))
        clear hw hx6 hfx hz ho
        have hHeld := hHeld.trans hfN
        have hz_30 := hfN.size
        refine hK.out _ _ hHeld (fun _ => ?_)
        clear hK K hfN
        try simp only [Act.put]
        refine wpAnyH_take (i := 16) (oi := ⟨some 6, _, _, _, _, _⟩) (v := ?vg16_31) rfl (by kernel_rfl) (by kernel_rfl) (by kernel_rfl) (fun _ _ _ h => h) (Or.inl ⟨by rfl, ?yg16_31⟩) hHeld ?rg16_31
        case yg16_31 =>
          intro wq hSw
          (try dsimp only at hSw)
          first | (go_simp; done) | (go_simp; with_reducible rfl)
        try simp only [Act.put, List.setIfInBounds_toArray, List.set_cons_zero, List.set_cons_succ]
        refine wpAnyH_take (i := 17) (oi := ⟨some 7, _, _, _, _, _⟩) (v := ?vg17_32) rfl (by kernel_rfl) (by kernel_rfl) (by kernel_rfl) (fun _ _ _ h => h) (Or.inl ⟨by rfl, ?yg17_32⟩) hHeld ?rg17_32
        case yg17_32 =>
          intro wq hSw
          (try dsimp only at hSw)
          first | (go_simp; done) | (go_simp; with_reducible rfl)
        try simp only [Act.put, List.setIfInBounds_toArray, List.set_cons_zero, List.set_cons_succ]
        refine wpAnyH_done (by kernel_rfl) ?_ _
        have RR6 := Lib.hid (RR.out.fr hHeld NR2.out NA2.out)
        have KK6 := Lib.hid (KK.out.fr hHeld (by have := KK.out.t.lt; show ¬ w2.heap.size ≤ _; omega) (by have := KK.out.g.lt; show ¬ w2.heap.size ≤ _; omega) (by have := KK.out.p.lt; show ¬ w2.heap.size ≤ _; omega))
        have X36 := Lib.hid (X3.out.fr hHeld (by have := LT3.out; show ¬ w2.heap.size ≤ _; omega))
        have X46 := Lib.hid (X4.out.fr hHeld (by have := LT3.out; show ¬ w2.heap.size ≤ _; omega))
        have B6 := Lib.hid (B2.out.trans (hHeld.below (show b3 ≤ w2.heap.size from by have := LT3.out; omega) (fun k h => by have h : w2.heap.size ≤ k := h; have := LT3.out; omega)))
        have GR := Lib.hid (show ¬ g5 = R from by have := GE5.out; have := NR2.out; omega)
        clear hHeld kt r2
        have kt := KK6.out.t.cell
        have kp := KK6.out.p.cell
        have hez := HEZ.out
        go_wp2_with (refine at_dst17 (d := 32) ?_; refine wpList_step17 (o := ⟨some 32, _, _, _, _, _⟩) (by rfl) _ _ (step_loadB rfl rfl Z6.out) ?_)
        refine (anyB_any PA x.ps.length pc (x.g : Int) (x.q : Int) w6).mono ?_; rintro e w8 ⟨rfl, hb8⟩
        have RR8 := Lib.hid (RR6.out.later hb8)
        have X38 := Lib.hid (X36.out.later hb8)
        have Z8 := Lib.hid (Z6.out.later hb8)
        have S8 := Lib.hid (S6.out.below hb8 (Nat.le_refl _))
        have B8 := Lib.hid (B6.out.trans (hb8.mono (show b3 ≤ w6.heap.size from by have := B6.out.size; have := HB3.out; omega)))
        have kt := (KK6.out.later hb8).t.cell
        have hs1 := RR8.out.set1 x.p
        have HS1 := Lib.hid hs1
        have r1 := RR8.out.c1
        have f1 := RR8.out.free 1
        have ZZ := Lib.hid (Z8.out.fr hs1.2 GR.out)
        have XX := Lib.hid (X38.out.fr hs1.2 NR3.out)
        have hz := HSZ PA x.ps.length pc (x.g : Int) (x.q : Int)
        have ho := HON PA x.ps.length pc (x.g : Int) (x.q : Int)
        clear hb8 kp hez hs1
        go_wp2_with (first | (refine at_dst17 (d := 47) ?_; refine wpList_step17 (o := ⟨some 47, _, _, _, _, _⟩) (by rfl) _ _ (step_loadB rfl rfl ZZ.out) ?_) | (refine at_none17 ?_; refine wpList_store_row (o := ⟨none, _, _, _, _, _⟩) rfl 55 (.tmp 3) (.tmp 47) rfl b3 _ rfl rfl 55 _ XX.out hz.out rfl ho.out ?_))
        refine bodyPost_ret (results_cell_row Tryd.results61 _ _ b3 55 _ (0, 0) _ rfl (setRow_heap _ _ _ _ _ _ XX.out) Tryd.underlying55 rfl hz.out) rfl ?_
        have hs1 := HS1.out
        have hfw := (Fr.of_below (S := fun k => k = R) (show Below w.heap.size w w8 from HB3.out ▸ B8.out)).trans hs1.2
        have hfs := Fr.setRow17 (S := fun k => k = b3) (Fr.refl _ (w8.setCell ⟨R, 1, none⟩ (.int .i64 (x.p : Int)))) (.inr rfl) #[.slice PA x.ps.length pc, .int .u64 (x.g : Int), .int .i64 (x.q : Int)]
        have hfz := hfw.setRow17 (.inl (by have := HB3.out; omega)) (g := b3) #[.slice PA x.ps.length pc, .int .u64 (x.g : Int), .int .i64 (x.q : Int)]
        exact ⟨PA, pc, rfl, (S8.out.fr hs1.2 PNR.out).fr hfs PN3.out, hs1.1.fr hfs (fun h => NR3.out h.symm) NA3.out, hfz, PNW.out⟩
    · rw [if_pos he]
      have hei : ¬ (x.e : Int) = 0 := by omega
      clear he
      go_enter Tryd.func61, Tryd.ntmps61
      go_wp2_with (first | (rw [← HW1.out]) | (rw [← HW2.out]))
      rw [← hb3, ← hb4]
      clear hb3 hb3' hb4
      refine wp_region_held_drew (S := fun w' => Fr (fun k => w2.heap.size ≤ k) w2 w') (by kernel_rfl) (Fr.drew (Fr.refl _ _)) (fun hHeld => ?_)
      clear hHeld
      have hHeld : Fr (fun k => w2.heap.size ≤ k) w2 w2.drew := Fr.drew (Fr.refl _ _)
      have hz_0 : w2.heap.size ≤ w2.drew.heap.size := Nat.le_refl _
      obtain ⟨v_1001, hw⟩ : ∃ v_1001, v_1001 = w2.drew := ⟨_, rfl⟩
      rw [← hw] at hHeld hz_0  ⊢
      clear hw
      refine wpAnyH_take (i := 0) (oi := ⟨some 15, _, _, _, _, _⟩) (v := ?vg0_1002) rfl (by kernel_rfl) (by kernel_rfl) (by kernel_rfl) (fun _ _ _ h => h) (Or.inl ⟨by rfl, ?yg0_1002⟩) hHeld ?rg0_1002
      case yg0_1002 =>
        intro wq hSw
        (try dsimp only at hSw)
        have hq := (KK.out.g.fr hSw (by have := KK.out.g.lt; show ¬ w2.heap.size ≤ _; omega)).cell
        first | (go_simp; done) | (go_simp; with_reducible rfl)
      try simp only [Act.put, List.setIfInBounds_toArray, List.set_cons_zero, List.set_cons_succ]
      refine wpAnyH_take (i := 1) (oi := ⟨some 16, _, _, _, _, _⟩) (v := ?vg1_1003) rfl (by kernel_rfl) (by kernel_rfl) (by kernel_rfl) (fun _ _ _ h => h) (Or.inl ⟨by rfl, ?yg1_1003⟩) hHeld ?rg1_1003
      case yg1_1003 =>
        intro wq hSw
        (try dsimp only at hSw)
        have hq := (KK.out.t.fr hSw (by have := KK.out.t.lt; show ¬ w2.heap.size ≤ _; omega)).cell
        first | (go_simp; done) | (go_simp; with_reducible rfl)
      try simp only [Act.put, List.setIfInBounds_toArray, List.set_cons_zero, List.set_cons_succ]
      refine wpAnyH_take (i := 2) (oi := ⟨some 17, _, _, _, _, _⟩) (v := ?vg2_1004) rfl (by kernel_rfl) (by kernel_rfl) (by kernel_rfl) (fun _ _ _ h => h) (Or.inl ⟨by rfl, ?yg2_1004⟩) hHeld ?rg2_1004
      case yg2_1004 =>
        intro wq hSw
        (try dsimp only at hSw)
        first | (go_simp; done) | (go_simp; with_reducible rfl)
      try simp only [Act.put, List.setIfInBounds_toArray, List.set_cons_zero, List.set_cons_succ]
      refine wpAnyH_take (i := 3) (oi := ⟨some 18, _, _, _, _, _⟩) (v := ?vg3_1005) rfl (by kernel_rfl) (by kernel_rfl) (by kernel_rfl) (fun _ _ _ h => h) (Or.inl ⟨by rfl, ?yg3_1005⟩) hHeld ?rg3_1005
      case yg3_1005 =>
        intro wq hSw
        (try dsimp only at hSw)
        first | (go_simp; done) | (go_simp; with_reducible rfl)
      try simp only [Act.put, List.setIfInBounds_toArray, List.set_cons_zero, List.set_cons_succ]
      refine wpAnyH_take (i := 4) (oi := ⟨some 19, _, _, _, _, _⟩) (v := ?vg4_1006) rfl (by kernel_rfl) (by kernel_rfl) (by kernel_rfl) (fun _ _ _ h => h) (Or.inl ⟨by rfl, ?yg4_1006⟩) hHeld ?rg4_1006
      case yg4_1006 =>
        intro wq hSw
        (try dsimp only at hSw)
        have hq := (RR.out.fr hSw NR2.out NA2.out).c0
        first | (go_simp; done) | (go_simp; with_reducible rfl)
      try simp only [Act.put, List.setIfInBounds_toArray, List.set_cons_zero, List.set_cons_succ]
      refine wpAnyH_take (i := 5) (oi := ⟨some 20, _, _, _, _, _⟩) (v := ?vg5_1007) rfl (by kernel_rfl) (by kernel_rfl) (by kernel_rfl) (fun _ _ _ h => h) (Or.inl ⟨by rfl, ?yg5_1007⟩) hHeld ?rg5_1007
      case yg5_1007 =>
        intro wq hSw
        (try dsimp only at hSw)
        have hq := (KK.out.t.fr hSw (by have := KK.out.t.lt; show ¬ w2.heap.size ≤ _; omega)).cell
        first | (go_simp; done) | (go_simp; with_reducible rfl)
      try simp only [Act.put, List.setIfInBounds_toArray, List.set_cons_zero, List.set_cons_succ]
      refine wpAnyH_take (i := 6) (oi := ⟨some 21, _, _, _, _, _⟩) (v := ?vg6_1008) rfl (by kernel_rfl) (by kernel_rfl) (by kernel_rfl) (fun _ _ _ h => h) (Or.inl ⟨by rfl, ?yg6_1008⟩) hHeld ?rg6_1008
      case yg6_1008 =>
        intro wq hSw
        (try dsimp only at hSw)
        first | (go_simp; done) | (go_simp; with_reducible rfl)
      try simp only [Act.put, List.setIfInBounds_toArray, List.set_cons_zero, List.set_cons_succ]
      refine wpAnyH_take (i := 7) (oi := ⟨some 22, _, _, _, _, _⟩) (v := ?vg7_1009) rfl (by kernel_rfl) (by kernel_rfl) (by kernel_rfl) (fun _ _ _ h => h) (Or.inl ⟨by rfl, ?yg7_1009⟩) hHeld ?rg7_1009
      case yg7_1009 =>
        intro wq hSw
        (try dsimp only at hSw)
        first | (go_simp; done) | (go_simp; with_reducible rfl)
      try simp only [Act.put, List.setIfInBounds_toArray, List.set_cons_zero, List.set_cons_succ]
      refine wpAnyH_take (i := 8) (oi := ⟨some 23, _, _, _, _, _⟩) (v := ?vg8_1010) rfl (by kernel_rfl) (by kernel_rfl) (by kernel_rfl) (fun _ _ _ h => h) (Or.inl ⟨by rfl, ?yg8_1010⟩) hHeld ?rg8_1010
      case yg8_1010 =>
        intro wq hSw
        (try dsimp only at hSw)
        have hq := (RR.out.fr hSw NR2.out NA2.out).c1
        first | (go_simp; done) | (go_simp; with_reducible rfl)
      try simp only [Act.put, List.setIfInBounds_toArray, List.set_cons_zero, List.set_cons_succ]
      refine wpAnyH_ready (rs := [9, 14]) (by kernel_rfl) (by simp) ?_
      refine AllReadyH.cons (o := ⟨some 24, _, _, _, _, _⟩) rfl (fun K hK => ?_) (AllReadyH.cons (o := ⟨some 5, _, _, _, _, _⟩) rfl (fun K hK => ?_) (AllReadyH.nil))
      · go_simp
        refine (HG.out v_1001 (RR.out.sl.fr hHeld NA2.out)).mono ?_; rintro e' v_1011 ⟨PA, pc, rfl, hs9, hb9, hl9⟩
        have hfN : Fr (fun k => w2.heap.size ≤ k) v_1001 v_1011 := Fr.of_below hb9
        have S9 := Lib.hid hs9
        clear hs9
        have PNR := Lib.hid (show ∀ b o, 0 < x.ps.length → PA = some ⟨b, o, none⟩ → ¬ b = R from fun b o hn e => by have := hl9 b o hn e; have := hHeld.size; have := NR2.out; omega)
        have PN3 := Lib.hid (show ∀ b o, 0 < x.ps.length → PA = some ⟨b, o, none⟩ → ¬ b = b3 from fun b o hn e => by have := hl9 b o hn e; have := hHeld.size; have := LT3.out; omega)
        have PNW := Lib.hid (show ∀ b o, 0 < x.ps.length → PA = some ⟨b, o, none⟩ → w.heap.size ≤ b from fun b o hn e => by have := hl9 b o hn e; have := hHeld.size; have := B2.out.size; omega)
        clear hl9
        go_wp2_with fail
        have hHeld := hHeld.trans hfN
        have hz_1012 := hfN.size
        refine hK.out _ _ hHeld (fun _ => ?_)
        clear hK K hfN
        try simp only [Act.put, List.setIfInBounds_toArray, List.set_cons_zero, List.set_cons_succ]
        refine wpAnyH_take (i := 10) (oi := ⟨some 14, _, _, _, _, _⟩) (v := ?vg10_1013) rfl (by kernel_rfl) (by kernel_rfl) (by kernel_rfl) (fun _ _ _ h => h) (Or.inl ⟨by rfl, ?yg10_1013⟩) hHeld ?rg10_1013
        case yg10_1013 =>
          intro wq hSw
          (try dsimp only at hSw)
          first | (go_simp; done) | (go_simp; with_reducible rfl)
        try simp only [Act.put, List.setIfInBounds_toArray, List.set_cons_zero, List.set_cons_succ]
        refine wpAnyH_take (i := 11) (oi := ⟨some 25, _, _, _, _, _⟩) (v := ?vg11_1014) rfl (by kernel_rfl) (by kernel_rfl) (by kernel_rfl) (fun _ _ _ h => h) (Or.inl ⟨by rfl, ?yg11_1014⟩) hHeld ?rg11_1014
        case yg11_1014 =>
          intro wq hSw
          (try dsimp only at hSw)
          first | (go_simp; done) | (go_simp; with_reducible rfl)
        try simp only [Act.put, List.setIfInBounds_toArray, List.set_cons_zero, List.set_cons_succ]
        refine wpAnyH_take (i := 12) (oi := ⟨some 26, _, _, _, _, _⟩) (v := ?vg12_1015) rfl (by kernel_rfl) (by kernel_rfl) (by kernel_rfl) (fun _ _ _ h => h) (Or.inl ⟨by rfl, ?yg12_1015⟩) hHeld ?rg12_1015
        case yg12_1015 =>
          intro wq hSw
          (try dsimp only at hSw)
          first | (go_simp; done) | (go_simp; with_reducible rfl)
        try simp only [Act.put, List.setIfInBounds_toArray, List.set_cons_zero, List.set_cons_succ]
        refine wpAnyH_take (i := 13) (oi := ⟨some 27, _, _, _, _, _⟩) (v := ?vg13_1016) rfl (by kernel_rfl) (by kernel_rfl) (by kernel_rfl) (fun _ _ _ h => h) (Or.inl ⟨by rfl, ?yg13_1016⟩) hHeld ?rg13_1016
        case yg13_1016 =>
          intro wq hSw
          (try dsimp only at hSw)
          first | (go_simp; done) | (go_simp; with_reducible rfl)
        try simp only [Act.put, List.setIfInBounds_toArray, List.set_cons_zero, List.set_cons_succ]
        refine wpAnyH_ready (rs := [14]) (by kernel_rfl) (by simp) ?_
        refine AllReadyH.cons (o := ⟨some 5, _, _, _, _, _⟩) rfl (fun K hK => ?_) (AllReadyH.nil)
        go_simp
        obtain ⟨g5, hg5⟩ : ∃ g, g = v_1011.heap.size := ⟨_, rfl⟩
        have hbN : Below v_1011.heap.size v_1011 (v_1011.alloc (.cells #[.slice none 0 0, .int .u64 0, .int .i64 0] 55)) := (Below.refl _ _).alloc (Nat.le_refl _) _
        have hx5 : BlB (v_1011.alloc (.cells #[.slice none 0 0, .int .u64 0, .int .i64 0] 55)) v_1011.heap.size none 0 0 0 0 := heap_alloc_new v_1011 _
        have hgl := block_lt hx5
        obtain ⟨v_1017, hw⟩ : ∃ x, x = v_1011.alloc (.cells #[.slice none 0 0, .int .u64 0, .int .i64 0] 55) := ⟨_, rfl⟩
        rw [← hw] at hbN hx5 hgl ⊢
        rw [← hg5] at hx5 hgl ⊢
        have hfN : Fr (fun k => w2.heap.size ≤ k) v_1011 v_1017 := Fr.of_below hbN
        have Z5 := Lib.hid hx5
        have G5 := Lib.hid hgl
        have GE5 := Lib.hid (show w2.heap.size ≤ g5 from by rw [hg5]; exact hHeld.size)
        have PN5 := Lib.hid (show ∀ b o, 0 < x.ps.length → PA = some ⟨b, o, none⟩ → ¬ b = g5 from fun b o hn e => by have := S9.out.lt (by decide) hn e; omega)
        have S9 := Lib.hid (S9.out.below hbN (Nat.le_refl _))
        clear hx5 hgl hw hg5 hbN
        have hHeld := hHeld.trans hfN
        have hz_1018 := hfN.size
        refine hK.out _ _ hHeld (fun _ => ?_)
        clear hK K hfN
        try simp only [Act.put, List.setIfInBounds_toArray, List.set_cons_zero, List.set_cons_succ]
        refine wpAnyH_ready (rs := [15]) (by kernel_rfl) (by simp) ?_
        refine AllReadyH.cons (o := ⟨none, _, _, _, _, _⟩) rfl (fun K hK => ?_) (AllReadyH.nil)
        have hz := HSZ PA x.ps.length pc (x.g : Int) (x.q : Int)
        have ho := HON PA x.ps.length pc (x.g : Int) (x.q : Int)
        refine wp_store_row (o := ⟨none, _, _, _, _, _⟩) 55 (.tmp 5) (.tmp 25) rfl g5 _ rfl rfl 55 _ Z5.out hz.out rfl ho.out ?_
        have hfx : Fr (fun k => k = g5) v_1017 (v_1017.setRow g5 #[.slice PA x.ps.length pc, .int .u64 (x.g : Int), .int .i64 (x.q : Int)]) := Fr.setRow17 (S := fun k => k = g5) (Fr.refl _ _) (.inr rfl) _
        have hx6 : BlB (v_1017.setRow g5 #[.slice PA x.ps.length pc, .int .u64 (x.g : Int), .int .i64 (x.q : Int)]) g5 PA x.ps.length pc x.g (x.q : Int) := setRow_heap _ _ _ _ _ _ Z5.out
        obtain ⟨w6, hw⟩ : ∃ y, y = v_1017.setRow g5 #[.slice PA x.ps.length pc, .int .u64 (x.g : Int), .int .i64 (x.q : Int)] := ⟨_, rfl⟩
        rw [← hw] at hfx hx6 ⊢
        have hfN : Fr (fun k => w2.heap.size ≤ k) v_1017 w6 := hfx.mono (fun k h => by have h : k = g5 := h; show _ ≤ k; have := GE5.out; omega)
        have Z6 := Lib.hid hx6
        have S6 := Lib.hid (show Sl w6 1 PA x.ps.length pc (icells (natsI x.ps)) from S9.out.fr hfx (fun b o hn e h => PN5.out b o hn e h))
        clear hw hx6 hfx hz ho
        have hHeld := hHeld.trans hfN
        have hz_1019 := hfN.size
        refine hK.out _ _ hHeld (fun _ => ?_)
        clear hK K hfN
        try simp only [Act.put]
        refine wpAnyH_take (i := 16) (oi := ⟨some 6, _, _, _, _, _⟩) (v := ?vg16_1020) rfl (by kernel_rfl) (by kernel_rfl) (by kernel_rfl) (fun _ _ _ h => h) (Or.inl ⟨by rfl, ?yg16_1020⟩) hHeld ?rg16_1020
        case yg16_1020 =>
          intro wq hSw
          (try dsimp only at hSw)
          first | (go_simp; done) | (go_simp; with_reducible rfl)
        try simp only [Act.put, List.setIfInBounds_toArray, List.set_cons_zero, List.set_cons_succ]
        refine wpAnyH_take (i := 17) (oi := ⟨some 7, _, _, _, _, _⟩) (v := ?vg17_1021) rfl (by kernel_rfl) (by kernel_rfl) (by kernel_rfl) (fun _ _ _ h => h) (Or.inl ⟨by rfl, ?yg17_1021⟩) hHeld ?rg17_1021
        case yg17_1021 =>
          intro wq hSw
          (try dsimp only at hSw)
          first | (go_simp; done) | (go_simp; with_reducible rfl)
        try simp only [Act.put, List.setIfInBounds_toArray, List.set_cons_zero, List.set_cons_succ]
        refine wpAnyH_done (by kernel_rfl) ?_ _
        have RR6 := Lib.hid (RR.out.fr hHeld NR2.out NA2.out)
        have KK6 := Lib.hid (KK.out.fr hHeld (by have := KK.out.t.lt; show ¬ w2.heap.size ≤ _; omega) (by have := KK.out.g.lt; show ¬ w2.heap.size ≤ _; omega) (by have := KK.out.p.lt; show ¬ w2.heap.size ≤ _; omega))
        have X36 := Lib.hid (X3.out.fr hHeld (by have := LT3.out; show ¬ w2.heap.size ≤ _; omega))
        have X46 := Lib.hid (X4.out.fr hHeld (by have := LT3.out; show ¬ w2.heap.size ≤ _; omega))
        have B6 := Lib.hid (B2.out.trans (hHeld.below (show b3 ≤ w2.heap.size from by have := LT3.out; omega) (fun k h => by have h : w2.heap.size ≤ k := h; have := LT3.out; omega)))
        have GR := Lib.hid (show ¬ g5 = R from by have := GE5.out; have := NR2.out; omega)
        clear hHeld kt r2
        have kt := KK6.out.t.cell
        have r2 := RR6.out.c2
        have f2 := RR6.out.free 2
        have hs1 := RR6.out.set2 x.e
        have HS1 := Lib.hid hs1
        have ZZ := Lib.hid (X46.out.fr hs1.2 NR4.out)
        have XX := Lib.hid (X36.out.fr hs1.2 NR3.out)
        have hz := HSZ none 0 0 0 0
        have ho := HON none 0 0 0 0
        clear hs1
        go_wp2_with (first | (refine at_dst17 (d := 42) ?_; refine wpList_step17 (o := ⟨some 42, _, _, _, _, _⟩) (by rfl) _ _ (step_loadB rfl rfl ZZ.out) ?_) | (refine at_none17 ?_; refine wpList_store_row (o := ⟨none, _, _, _, _, _⟩) rfl 55 (.tmp 3) (.tmp 42) rfl b3 _ rfl rfl 55 _ XX.out hz.out rfl ho.out ?_))
        refine bodyPost_ret (results_cell_row Tryd.results61 _ _ b3 55 _ (0, 0) _ rfl (setRow_heap _ _ _ _ _ _ XX.out) Tryd.underlying55 rfl hz.out) rfl ?_
        have hs1 := HS1.out
        have hfw := (Fr.of_below (S := fun k => k = R) (show Below w.heap.size w w6 from HB3.out ▸ B6.out)).trans hs1.2
        have hfs := Fr.setRow17 (S := fun k => k = b3) (Fr.refl _ (w6.setCell ⟨R, 2, none⟩ (.int .i64 (x.e : Int)))) (.inr rfl) #[.slice none 0 0, .int .u64 ((0 : Nat) : Int), .int .i64 0]
        have hfz := hfw.setRow17 (.inl (by have := HB3.out; omega)) (g := b3) #[.slice none 0 0, .int .u64 ((0 : Nat) : Int), .int .i64 0]
        exact ⟨none, 0, rfl, Sl.nil _ _ _ (by decide), hs1.1.fr hfs (fun h => NR3.out h.symm) NA3.out, hfz, fun b o h0 => absurd h0 (Nat.lt_irrefl 0)⟩
      · go_simp
        obtain ⟨g5, hg5⟩ : ∃ g, g = v_1001.heap.size := ⟨_, rfl⟩
        have hbN : Below v_1001.heap.size v_1001 (v_1001.alloc (.cells #[.slice none 0 0, .int .u64 0, .int .i64 0] 55)) := (Below.refl _ _).alloc (Nat.le_refl _) _
        have hx5 : BlB (v_1001.alloc (.cells #[.slice none 0 0, .int .u64 0, .int .i64 0] 55)) v_1001.heap.size none 0 0 0 0 := heap_alloc_new v_1001 _
        have hgl := block_lt hx5
        obtain ⟨v_1022, hw⟩ : ∃ x, x = v_1001.alloc (.cells #[.slice none 0 0, .int .u64 0, .int .i64 0] 55) := ⟨_, rfl⟩
        rw [← hw] at hbN hx5 hgl ⊢
        rw [← hg5] at hx5 hgl ⊢
        have hfN : Fr (fun k => w2.heap.size ≤ k) v_1001 v_1022 := Fr.of_below hbN
        have Z5 := Lib.hid hx5
        have G5 := Lib.hid hgl
        have GE5 := Lib.hid (show w2.heap.size ≤ g5 from by rw [hg5]; exact hHeld.size)
        clear hx5 hgl hw hg5 hbN
        have hHeld := hHeld.trans hfN
        have hz_1023 := hfN.size
        refine hK.out _ _ hHeld (fun _ => ?_)
        clear hK K hfN
        try simp only [Act.put, List.setIfInBounds_toArray, List.set_cons_zero, List.set_cons_succ]
        refine wpAnyH_ready (rs := [9]) (by kernel_rfl) (by simp) ?_
        refine AllReadyH.cons (o := ⟨some 24, _, _, _, _, _⟩) rfl (fun K hK => ?_) (AllReadyH.nil)
        go_simp
        refine (HG.out v_1022 (RR.out.sl.fr hHeld NA2.out)).mono ?_; rintro e' v_1024 ⟨PA, pc, rfl, hs9, hb9, hl9⟩
        have hfN : Fr (fun k => w2.heap.size ≤ k) v_1022 v_1024 := Fr.of_below hb9
        have S9 := Lib.hid hs9
        clear hs9
        have PNR := Lib.hid (show ∀ b o, 0 < x.ps.length → PA = some ⟨b, o, none⟩ → ¬ b = R from fun b o hn e => by have := hl9 b o hn e; have := hHeld.size; have := NR2.out; omega)
        have PN3 := Lib.hid (show ∀ b o, 0 < x.ps.length → PA = some ⟨b, o, none⟩ → ¬ b = b3 from fun b o hn e => by have := hl9 b o hn e; have := hHeld.size; have := LT3.out; omega)
        have PNW := Lib.hid (show ∀ b o, 0 < x.ps.length → PA = some ⟨b, o, none⟩ → w.heap.size ≤ b from fun b o hn e => by have := hl9 b o hn e; have := hHeld.size; have := B2.out.size; omega)
        have Z5 := Lib.hid (Z5.out.later hb9)
        have PN5 := Lib.hid (show ∀ b o, 0 < x.ps.length → PA = some ⟨b, o, none⟩ → ¬ b = g5 from fun b o hn e => by have := hl9 b o hn e; have := G5.out; omega)
        have G5 := Lib.hid (Nat.lt_of_lt_of_le G5.out hb9.size)
        clear hl9
        go_wp2_with fail
        have hHeld := hHeld.trans hfN
        have hz_1025 := hfN.size
        refine hK.out _ _ hHeld (fun _ => ?_)
        clear hK K hfN
        try simp only [Act.put, List.setIfInBounds_toArray, List.set_cons_zero, List.set_cons_succ]
        refine wpAnyH_take (i := 10) (oi := ⟨some 14, _, _, _, _, _⟩) (v := ?vg10_1026) rfl (by kernel_rfl) (by kernel_rfl) (by kernel_rfl) (fun _ _ _ h => h) (Or.inl ⟨by rfl, ?yg10_1026⟩) hHeld ?rg10_1026
        case yg10_1026 =>
          intro wq hSw
          (try dsimp only at hSw)
          first | (go_simp; done) | (go_simp; with_reducible rfl)
        try simp only [Act.put, List.setIfInBounds_toArray, List.set_cons_zero, List.set_cons_succ]
        refine wpAnyH_take (i := 11) (oi := ⟨some 25, _, _, _, _, _⟩) (v := ?vg11_1027) rfl (by kernel_rfl) (by kernel_rfl) (by kernel_rfl) (fun _ _ _ h => h) (Or.inl ⟨by rfl, ?yg11_1027⟩) hHeld ?rg11_1027
        case yg11_1027 =>
          intro wq hSw
          (try dsimp only at hSw)
          first | (go_simp; done) | (go_simp; with_reducible rfl)
        try simp only [Act.put, List.setIfInBounds_toArray, List.set_cons_zero, List.set_cons_succ]
        refine wpAnyH_take (i := 12) (oi := ⟨some 26, _, _, _, _, _⟩) (v := ?vg12_1028) rfl (by kernel_rfl) (by kernel_rfl) (by kernel_rfl) (fun _ _ _ h => h) (Or.inl ⟨by rfl, ?yg12_1028⟩) hHeld ?rg12_1028
        case yg12_1028 =>
          intro wq hSw
          (try dsimp only at hSw)
          first | (go_simp; done) | (go_simp; with_reducible rfl)
        try simp only [Act.put, List.setIfInBounds_toArray, List.set_cons_zero, List.set_cons_succ]
        refine wpAnyH_take (i := 13) (oi := ⟨some 27, _, _, _, _, _⟩) (v := ?vg13_1029) rfl (by kernel_rfl) (by kernel_rfl) (by kernel_rfl) (fun _ _ _ h => h) (Or.inl ⟨by rfl, ?yg13_1029⟩) hHeld ?rg13_1029
        case yg13_1029 =>
          intro wq hSw
          (try dsimp only at hSw)
          first | (go_simp; done) | (go_simp; with_reducible rfl)
        try simp only [Act.put, List.setIfInBounds_toArray, List.set_cons_zero, List.set_cons_succ]
        refine wpAnyH_ready (rs := [15]) (by kernel_rfl) (by simp) ?_
        refine AllReadyH.cons (o := ⟨none, _, _, _, _, _⟩) rfl (fun K hK => ?_) (AllReadyH.nil)
        have hz := HSZ PA x.ps.length pc (x.g : Int) (x.q : Int)
        have ho := HON PA x.ps.length pc (x.g : Int) (x.q : Int)
        refine wp_store_row (o := ⟨none, _, _, _, _, _⟩) 55 (.tmp 5) (.tmp 25) rfl g5 _ rfl rfl 55 _ Z5.out hz.out rfl ho.out ?_
        have hfx : Fr (fun k => k = g5) v_1024 (v_1024.setRow g5 #[.slice PA x.ps.length pc, .int .u64 (x.g : Int), .int .i64 (x.q : Int)]) := Fr.setRow17 (S := fun k => k = g5) (Fr.refl _ _) (.inr rfl) _
        have hx6 : BlB (v_1024.setRow g5 #[.slice PA x.ps.length pc, .int .u64 (x.g : Int), .int .i64 (x.q : Int)]) g5 PA x.ps.length pc x.g (x.q : Int) := setRow_heap _ _ _ _ _ _ Z5.out
        obtain ⟨w6, hw⟩ : ∃ y, y = v_1024.setRow g5 #[.slice PA x.ps.length pc, .int .u64 (x.g : Int), .int .i64 (x.q : Int)] := ⟨_, rfl⟩
        rw [← hw] at hfx hx6 ⊢
        have hfN : Fr (fun k => w2.heap.size ≤ k) v_1024 w6 := hfx.mono (fun k h => by have h : k = g5 := h; show _ ≤ k; have := GE5.out; omega)
        have Z6 := Lib.hid hx6
        have S6 := Lib.hid (show Sl w6 1 PA x.ps.length pc (icells (natsI x.ps)) from S9.out.fr hfx (fun b o hn e h => PN5.out b o hn e h))
        clear hw hx6 hfx hz ho
        have hHeld := hHeld.trans hfN
        have hz_1030 := hfN.size
        refine hK.out _ _ hHeld (fun _ => ?_)
        clear hK K hfN
        try simp only [Act.put]
        refine wpAnyH_take (i := 16) (oi := ⟨some 6, _, _, _, _, _⟩) (v := ?vg16_1031) rfl (by kernel_rfl) (by kernel_rfl) (by kernel_rfl) (fun _ _ _ h => h) (Or.inl ⟨by rfl, ?yg16_1031⟩) hHeld ?rg16_1031
        case yg16_1031 =>
          intro wq hSw
          (try dsimp only at hSw)
          first | (go_simp; done) | (go_simp; with_reducible rfl)
        try simp only [Act.put, List.setIfInBounds_toArray, List.set_cons_zero, List.set_cons_succ]
        refine wpAnyH_take (i := 17) (oi := ⟨some 7, _, _, _, _, _⟩) (v := ?vg17_1032) rfl (by kernel_rfl) (by kernel_rfl) (by kernel_rfl) (fun _ _ _ h => h) (Or.inl ⟨by rfl, ?yg17_1032⟩) hHeld ?rg17_1032
        case yg17_1032 =>
          intro wq hSw
          (try dsimp only at hSw)
          first | (go_simp; done) | (go_simp; with_reducible rfl)
        try simp only [Act.put, List.setIfInBounds_toArray, List.set_cons_zero, List.set_cons_succ]
        refine wpAnyH_done (by kernel_rfl) ?_ _
        have RR6 := Lib.hid (RR.out.fr hHeld NR2.out NA2.out)
        have KK6 := Lib.hid (KK.out.fr hHeld (by have := KK.out.t.lt; show ¬ w2.heap.size ≤ _; omega) (by have := KK.out.g.lt; show ¬ w2.heap.size ≤ _; omega) (by have := KK.out.p.lt; show ¬ w2.heap.size ≤ _; omega))
        have X36 := Lib.hid (X3.out.fr hHeld (by have := LT3.out; show ¬ w2.heap.size ≤ _; omega))
        have X46 := Lib.hid (X4.out.fr hHeld (by have := LT3.out; show ¬ w2.heap.size ≤ _; omega))
        have B6 := Lib.hid (B2.out.trans (hHeld.below (show b3 ≤ w2.heap.size from by have := LT3.out; omega) (fun k h => by have h : w2.heap.size ≤ k := h; have := LT3.out; omega)))
        have GR := Lib.hid (show ¬ g5 = R from by have := GE5.out; have := NR2.out; omega)
        clear hHeld kt r2
        have kt := KK6.out.t.cell
        have r2 := RR6.out.c2
        have f2 := RR6.out.free 2
        have hs1 := RR6.out.set2 x.e
        have HS1 := Lib.hid hs1
        have ZZ := Lib.hid (X46.out.fr hs1.2 NR4.out)
        have XX := Lib.hid (X36.out.fr hs1.2 NR3.out)
        have hz := HSZ none 0 0 0 0
        have ho := HON none 0 0 0 0
        clear hs1
        go_wp2_with (first | (refine at_dst17 (d := 42) ?_; refine wpList_step17 (o := ⟨some 42, _, _, _, _, _⟩) (by rfl) _ _ (step_loadB rfl rfl ZZ.out) ?_) | (refine at_none17 ?_; refine wpList_store_row (o := ⟨none, _, _, _, _, _⟩) rfl 55 (.tmp 3) (.tmp 42) rfl b3 _ rfl rfl 55 _ XX.out hz.out rfl ho.out ?_))
        refine bodyPost_ret (results_cell_row Tryd.results61 _ _ b3 55 _ (0, 0) _ rfl (setRow_heap _ _ _ _ _ _ XX.out) Tryd.underlying55 rfl hz.out) rfl ?_
        have hs1 := HS1.out
        have hfw := (Fr.of_below (S := fun k => k = R) (show Below w.heap.size w w6 from HB3.out ▸ B6.out)).trans hs1.2
        have hfs := Fr.setRow17 (S := fun k => k = b3) (Fr.refl _ (w6.setCell ⟨R, 2, none⟩ (.int .i64 (x.e : Int)))) (.inr rfl) #[.slice none 0 0, .int .u64 ((0 : Nat) : Int), .int .i64 0]
        have hfz := hfw.setRow17 (.inl (by have := HB3.out; omega)) (g := b3) #[.slice none 0 0, .int .u64 ((0 : Nat) : Int), .int .i64 0]
        exact ⟨none, 0, rfl, Sl.nil _ _ _ (by decide), hs1.1.fr hfs (fun h => NR3.out h.symm) NA3.out, hfz, fun b o h0 => absurd h0 (Nat.lt_irrefl 0)⟩
  · have ht : tkB l (at_, fault) = (zB, (at_, fault)) := by unfold tkB; rw [if_pos hf]
    rw [ht]
    have hfi : ¬ (fault : Int) = 0 := by omega
    clear ht
    rw [hb4] at X4
    rw [hb3] at X3
    have hs1 := HSZ none 0 0 0 0
    have hs2 := HON none 0 0 0 0
    go_enter Tryd.func61, Tryd.ntmps61
    go_wp2_with (first | (rw [← HW1.out]) | (rw [← HW2.out]) | (refine at_dst17 (d := 13) ?_; refine wpList_step17 (o := ⟨some 13, _, _, _, _, _⟩) (by rfl) _ _ (step_loadB rfl rfl X4.out) ?_) | (refine at_none17 ?_; refine wpList_store_row (o := ⟨none, _, _, _, _, _⟩) rfl 55 (.tmp 3) (.tmp 13) rfl _ _ rfl rfl 55 _ X3.out hs1.out rfl hs2.out ?_))
    refine bodyPost_ret (results_cell_row Tryd.results61 _ _ _ 55 _ (0, 0) _ rfl (setRow_heap _ _ _ _ _ _ X3.out) Tryd.underlying55 rfl hs1.out) rfl ?_
    have hfr := Fr.setRow17 (S := fun k => k = w.heap.size) (Fr.refl _ w2) (.inr rfl) #[.slice none 0 0, .int .u64 ((0 : Nat) : Int), .int .i64 0]
    rw [← hb3] at hfr ⊢
    exact ⟨none, 0, rfl, Sl.nil _ _ _ (by decide), RR.out.fr hfr (fun h => NR3.out h.symm) NA3.out, (Fr.of_below (S := fun k => k = R) (show Below w.heap.size w w2 from HB3.out ▸ B2.out)).setRow17 (.inl (by have := HB3.out; omega)) _, fun b o h0 => absurd h0 (Nat.lt_irrefl 0)⟩
end Go.Proofs.YtpijfghklgmefaaDoor

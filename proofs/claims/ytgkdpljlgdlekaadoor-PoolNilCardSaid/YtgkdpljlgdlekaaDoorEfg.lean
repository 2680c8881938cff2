/-
  Contracts of package pool's Give, Later, Use, Settle, Free, Limbo, Taken. Condition: the table reads as the row lists it ('Tz'), where places are looked for. (Written by gen_efg.py.)
-/
import Derived.Test.YtgkdpljlgdlekaaDoorEff
namespace Go.Proofs.YtgkdpljlgdlekaaDoor
open Go.RowKit Go.Proofs
set_option linter.unusedVariables false
set_option maxRecDepth 20000
set_option maxHeartbeats 1600000

/-- What is answered when places are handed in and something becomes of them. -/
def RetTurn (S : Nat → Prop) (P : Nat) (p : Ps) (k : Nat) (w : World) (e : Ending) (w' : World) : Prop := e = .returned (.int .i64 (k : Int)) ∧ Pl w' S P p ∧ Fr S w w'
theorem give_no (v : Value) (A : Option Addr) (n c : Nat) (w : World) (h : No14 w v) :
    Calls Tryd.prog 10 #[v, .slice A n c] w fun e w' => e = .returned (.int .i64 0) ∧ Below w.heap.size w w' := by
  have hb0 : Below w.heap.size w (w.alloc (.cells #[v] 23)) := (Below.refl _ _).alloc (Nat.le_refl _) _
  have hbe := fun x => become_no v A n c x _ (h.keep hb0).made
  rcases h with rfl | ⟨P, rfl, -⟩
  all_goals
    go_enter Tryd.func10, Tryd.ntmps10
    go_wp2_with fail
    refine (hbe _).mono ?_; clear hbe; rintro e w1 ⟨rfl, rfl⟩
    go_wp2_with fail
    go_ret
    exact ⟨rfl, hb0⟩
theorem give_any (S : Nat → Prop) (P : Nat) (p : Ps) (A : Option Addr) (n c : Nat) (zs : List Int) (w : World) (h : Pl w S P p) (hs : Sl w 1 A n c (icells zs)) (hl : zs.length = n) (hz : ∀ z ∈ zs, z < 9223372036854775808) (hA : ∀ b o, 0 < n → A = some ⟨b, o, none⟩ → ¬ S b) :
    Calls Tryd.prog 10 #[.pointer (some ⟨P, 0, none⟩), .slice A n c] w (RetTurn S P (giveAll p zs) (becL giveS p.a (0, p) zs).1 w) := by
  obtain ⟨M, B, M2, B2, rfl, hp⟩ := h
  have hb0 : Below w.heap.size w (w.alloc (.cells #[.pointer (some ⟨P, 0, none⟩)] 23)) := (Below.refl _ _).alloc (Nat.le_refl _) _
  have hx := heap_alloc_new w (.cells #[.pointer (some ⟨P, 0, none⟩)] 23)
  have hc : (w.alloc (.cells #[.pointer (some ⟨P, 0, none⟩)] 23)).cell? ⟨w.heap.size, 0, none⟩ = some (.pointer (some ⟨P, 0, none⟩)) := by rw [cell_of_row _ _ _ _ _ _ hx]; rfl
  have h0 : ¬ Tw B B2 w.heap.size := by
    have := hp.busy.ltB
    have := hp.limbo.ltB
    rintro (h | h) <;> omega
  have hbe := become_any giveS giveS_step 29 (enters_of Tryd.func29 (by kernel_rfl) rfl) #[] #[.pointer (some ⟨w.heap.size, 0, none⟩)] P M B M2 B2 p A n c zs _ (hp.later hb0) (hs.below hb0 (Nat.le_refl _)) hl hz (fun b o h1 e => fun h => hA b o h1 e (by
      rcases h with rfl | rfl
      · exact .inr (.inr (.inl rfl))
      · exact .inr (.inr (.inr (.inr rfl))))) (fun W q i hf hq => give1_any i W hq (hf.cell_some hc h0))
  unfold RetBec at hbe
  rw [bec_give] at hbe
  unfold RetTurn
  obtain ⟨k, hk⟩ : ∃ k, k = (becL giveS p.a (0, p) zs).1 := ⟨_, rfl⟩
  rw [← hk] at hbe ⊢
  have HB := Lib.hid hb0
  clear hp hs hz hA hk hb0
  go_enter Tryd.func10, Tryd.ntmps10
  go_wp2_with fail
  refine hbe.mono ?_; clear hbe; rintro e w1 ⟨rfl, hp, hf⟩
  have HP := Lib.hid hp
  have HF := Lib.hid hf
  clear hp hf
  go_wp2_with fail
  go_ret
  exact ⟨rfl, ⟨M, B, M2, B2, rfl, HP.out⟩, (Fr.of_below HB.out).trans HF.out.tw⟩
theorem later_no (v : Value) (A : Option Addr) (n c : Nat) (w : World) (h : No14 w v) :
    Calls Tryd.prog 12 #[v, .slice A n c] w fun e w' => e = .returned (.int .i64 0) ∧ Below w.heap.size w w' := by
  have hb0 : Below w.heap.size w (w.alloc (.cells #[v] 23)) := (Below.refl _ _).alloc (Nat.le_refl _) _
  have hbe := fun x => become_no v A n c x _ (h.keep hb0).made
  rcases h with rfl | ⟨P, rfl, -⟩
  all_goals
    go_enter Tryd.func12, Tryd.ntmps12
    go_wp2_with fail
    refine (hbe _).mono ?_; clear hbe; rintro e w1 ⟨rfl, rfl⟩
    go_wp2_with fail
    go_ret
    exact ⟨rfl, hb0⟩
theorem later_any (S : Nat → Prop) (P : Nat) (p : Ps) (A : Option Addr) (n c : Nat) (zs : List Int) (w : World) (h : Pl w S P p) (hs : Sl w 1 A n c (icells zs)) (hl : zs.length = n) (hz : ∀ z ∈ zs, z < 9223372036854775808) (hA : ∀ b o, 0 < n → A = some ⟨b, o, none⟩ → ¬ S b) :
    Calls Tryd.prog 12 #[.pointer (some ⟨P, 0, none⟩), .slice A n c] w (RetTurn S P (laterAll p zs) (becL laterS p.a (0, p) zs).1 w) := by
  obtain ⟨M, B, M2, B2, rfl, hp⟩ := h
  have hb0 : Below w.heap.size w (w.alloc (.cells #[.pointer (some ⟨P, 0, none⟩)] 23)) := (Below.refl _ _).alloc (Nat.le_refl _) _
  have hx := heap_alloc_new w (.cells #[.pointer (some ⟨P, 0, none⟩)] 23)
  have hc : (w.alloc (.cells #[.pointer (some ⟨P, 0, none⟩)] 23)).cell? ⟨w.heap.size, 0, none⟩ = some (.pointer (some ⟨P, 0, none⟩)) := by rw [cell_of_row _ _ _ _ _ _ hx]; rfl
  have h0 : ¬ Tw B B2 w.heap.size := by
    have := hp.busy.ltB
    have := hp.limbo.ltB
    rintro (h | h) <;> omega
  have hbe := become_any laterS laterS_step 32 (enters_of Tryd.func32 (by kernel_rfl) rfl) #[] #[.pointer (some ⟨w.heap.size, 0, none⟩)] P M B M2 B2 p A n c zs _ (hp.later hb0) (hs.below hb0 (Nat.le_refl _)) hl hz (fun b o h1 e => fun h => hA b o h1 e (by
      rcases h with rfl | rfl
      · exact .inr (.inr (.inl rfl))
      · exact .inr (.inr (.inr (.inr rfl))))) (fun W q i hf hq => later1_any i W hq (hf.cell_some hc h0))
  unfold RetBec at hbe
  rw [bec_later] at hbe
  unfold RetTurn
  obtain ⟨k, hk⟩ : ∃ k, k = (becL laterS p.a (0, p) zs).1 := ⟨_, rfl⟩
  rw [← hk] at hbe ⊢
  have HB := Lib.hid hb0
  clear hp hs hz hA hk hb0
  go_enter Tryd.func12, Tryd.ntmps12
  go_wp2_with fail
  refine hbe.mono ?_; clear hbe; rintro e w1 ⟨rfl, hp, hf⟩
  have HP := Lib.hid hp
  have HF := Lib.hid hf
  clear hp hf
  go_wp2_with fail
  go_ret
  exact ⟨rfl, ⟨M, B, M2, B2, rfl, HP.out⟩, (Fr.of_below HB.out).trans HF.out.tw⟩
theorem use_no (v : Value) (n : Int) (w : World) (h : No14 w v) :
    Calls Tryd.prog 19 #[v, .int .i64 n] w fun e w' => e = .returned (.bool false) ∧ Below w.heap.size w w' := by
  have hb0 : Below w.heap.size w (w.alloc (.cells #[.int .i64 n] 3)) := (Below.refl _ _).alloc (Nat.le_refl _) _
  have hbe := fun x => become_no v (some ⟨w.heap.size, 0, none⟩) 1 1 x _ (h.keep hb0).made
  clear h
  go_enter Tryd.func19, Tryd.ntmps19
  go_wp2_with fail
  refine (hbe _).mono ?_; clear hbe; rintro e w1 ⟨rfl, rfl⟩
  go_wp2_with fail
  go_ret
  exact ⟨rfl, hb0⟩
theorem use_any (S : Nat → Prop) (P : Nat) (p : Ps) (n : Int) (hn : n < 9223372036854775808) (w : World) (h : Pl w S P p) :
    Calls Tryd.prog 19 #[.pointer (some ⟨P, 0, none⟩), .int .i64 n] w fun e w' => e = .returned (.bool (setB p.n p.f (n - p.a) true)) ∧ Pl w' S P (takeS p (n - p.a)).2 ∧ Fr S w w' := by
  obtain ⟨M, B, M2, B2, rfl, hp⟩ := h
  have hb0 : Below w.heap.size w (w.alloc (.cells #[.int .i64 n] 3)) := (Below.refl _ _).alloc (Nat.le_refl _) _
  have hbe := become_any takeS takeS_step 28 (enters_of Tryd.func28 (by kernel_rfl) rfl) #[.pointer (some ⟨P, 0, none⟩)] #[] P M B M2 B2 p (some ⟨w.heap.size, 0, none⟩) 1 1 [n] _ (hp.later hb0) (Sl.made w #[.int .i64 n] 3 1 1 rfl (by decide)) rfl (fun z hz => by rw [List.mem_singleton.1 hz]; exact hn) (fun b' o' _ e => by
      injection e with e
      injection e with e _
      have := hp.busy.ltB
      have := hp.limbo.ltB
      rintro (h | h) <;> omega) (fun W q i hf hq => take1_any i W hq)
  unfold RetBec at hbe
  have hk : (((becL takeS p.a (0, p) [n]).1 : Nat) : Int) = if setB p.n p.f (n - p.a) true = true then 1 else 0 := by
    show (((if setB p.n p.f (n - p.a) true = true then 0 + 1 else 0 : Nat)) : Int) = _
    split <;> rfl
  have hk2 : (becL takeS p.a (0, p) [n]).2 = (takeS p (n - p.a)).2 := rfl
  rw [hk, hk2] at hbe
  obtain ⟨y, hy⟩ : ∃ y, y = setB p.n p.f (n - p.a) true := ⟨_, rfl⟩
  rw [← hy] at hbe ⊢
  have HB := Lib.hid hb0
  clear hp hk hk2 hy hb0
  cases y
  all_goals
    simp only [if_true, if_false, Bool.false_eq_true] at hbe
    go_enter Tryd.func19, Tryd.ntmps19
    go_wp2_with fail
    refine hbe.mono ?_; clear hbe; rintro e w1 ⟨rfl, hp, hf⟩
    have HP := Lib.hid hp
    have HF := Lib.hid hf
    clear hp hf
    go_wp2_with fail
    go_ret
    exact ⟨rfl, ⟨M, B, M2, B2, rfl, HP.out⟩, (Fr.of_below HB.out).trans HF.out.tw⟩
/-! Settle. -/
theorem settle_no (v : Value) (w : World) (h : No14 w v) :
    Calls Tryd.prog 13 #[v] w fun e w' => e = .returned (.int .i64 0) ∧ Below w.heap.size w w' := by
  have hb0 : Below w.heap.size w (w.alloc (.cells #[v] 23)) := (Below.refl _ _).alloc (Nat.le_refl _) _
  have hm := (h.keep hb0).made
  rcases h with rfl | ⟨P, rfl, -⟩
  all_goals
    go_enter Tryd.func13, Tryd.ntmps13
    go_wp2_with fail
    refine hm.mono ?_; clear hm; rintro e w1 ⟨rfl, rfl⟩
    go_wp2_with fail
    go_ret
    exact ⟨rfl, hb0⟩
/-- A pool of which nothing is in limbo any more. -/
def settledP (p : Ps) : Ps := { p with f := fun i => p.f i && !(p.g i), g := fun _ => false }
theorem settle_all {w : World} {P M B M2 B2 : Nat} {p : Ps} (h : PlAt w P M B M2 B2 (settleAll p (intsOf (placesL p (plc p.n 0 p.g true))))) : PlAt w P M B M2 B2 (settledP p) := by
  have hon : ∀ i, i < p.n → onL p (intsOf (placesL p (plc p.n 0 p.g true))) i = p.g i := by
    intro i hi
    rw [onL]
    cases hg : p.g i with
    | true =>
      refine decide_eq_true ⟨hi, ?_⟩
      exact List.mem_map.2 ⟨p.a + i, List.mem_map.2 ⟨i, plc_mem.2 ⟨Nat.zero_le _, hi, hg⟩, rfl⟩, rfl⟩
    | false =>
      refine decide_eq_false ?_
      rintro ⟨_, hm⟩
      obtain ⟨x, hx, e⟩ := List.mem_map.1 hm
      obtain ⟨y, hy, rfl⟩ := List.mem_map.1 hx
      have := (plc_mem.1 hy).2.2
      have e2 : y = i := by omega
      rw [e2, hg] at this
      cases this
  refine h.congr (fun i hi => ?_) (fun i hi => ?_)
  · show (p.f i && !(onL p _ i && p.g i)) = (p.f i && !(p.g i))
    rw [hon i hi, Bool.and_self]
  · show (p.g i && !(onL p _ i)) = false
    rw [hon i hi]
    cases p.g i <;> rfl
theorem settle_cnt {p : Ps} (h : p.Ok) : (becL settleS p.a (0, p) (intsOf (placesL p (plc p.n 0 p.g true)))).1 = cntL p.n p.g := by
  rw [bec_settle_cnt _ _ _ h, Nat.zero_add, intsOf_length, placesL, List.length_map]
  · rfl
  · have hu := plc_up (n := p.n) (a := 0) (f := p.g) (t := true)
    have : (intsOf (placesL p (plc p.n 0 p.g true))).Pairwise (· < ·) := by
      rw [intsOf, placesL, List.map_map, List.pairwise_map]
      refine hu.imp ?_
      intro a b hab
      show ((p.a + a : Nat) : Int) < ((p.a + b : Nat) : Int)
      omega
    exact this.imp fun hab => by omega
  · intro z hz
    obtain ⟨x, hx, rfl⟩ := List.mem_map.1 hz
    obtain ⟨y, hy, rfl⟩ := List.mem_map.1 hx
    obtain ⟨_, h1, h2⟩ := plc_mem.1 hy
    rw [show (((p.a + y : Nat) : Int) - (p.a : Int)) = (y : Int) from by omega, Int.toNat_natCast]
    exact ⟨by simp [inB]; omega, h2⟩
theorem settle_any (S : Nat → Prop) (P : Nat) (p : Ps) (w : World) (h : Pl w S P p) (hN : Tz w) :
    Calls Tryd.prog 13 #[.pointer (some ⟨P, 0, none⟩)] w (RetTurn S P (settledP p) (cntL p.n p.g) w) := by
  obtain ⟨M, B, M2, B2, rfl, hp⟩ := h
  obtain ⟨wl, hwl⟩ : ∃ x, x = w.alloc (.cells #[.pointer (some ⟨P, 0, none⟩)] 23) := ⟨_, rfl⟩
  have hbl : Below w.heap.size w wl := by rw [hwl]; exact (Below.refl _ _).alloc (Nat.le_refl _) _
  have hx : wl.heap[w.heap.size]? = some (.cells #[.pointer (some ⟨P, 0, none⟩)] 23 (0, 0)) := by rw [hwl]; exact heap_alloc_new w _
  have hcx : wl.cell? ⟨w.heap.size, 0, none⟩ = some (.pointer (some ⟨P, 0, none⟩)) := by rw [cell_of_row _ _ _ _ _ _ hx]; rfl
  have hpl := hp.later hbl
  have hm := pmade_yes P M wl hpl.c3
  have HP := Lib.hid hpl
  have HN := Lib.hid (hN.keep hbl)
  have HB := Lib.hid hbl
  have HX := Lib.hid hcx
  have H0 := Lib.hid (show ¬ Tw B B2 w.heap.size from by
    have := hp.busy.ltB
    have := hp.limbo.ltB
    rintro (h | h) <;> omega)
  have H4 := Lib.hid hpl.c4
  have H4n := Lib.hid (show ¬ Tw B B2 P from by rintro (h | h); exact hp.pb h; exact hp.pb2 h)
  clear hp hN hbl hx hpl
  go_enter Tryd.func13, Tryd.ntmps13
  go_wp2_with fail
  rw [← hwl] at *
  refine hm.mono ?_; clear hm; rintro e w1 ⟨rfl, hw1⟩
  obtain rfl : wl = w1 := hw1.symm
  clear hwl
  go_wp2_with fail
  clear hcx
  refine wp_region_held_drew (S := fun w' => Fr (Tw B B2) wl.drew w') (by kernel_rfl) (Fr.refl _ _) (fun hHeld => ?_)
  clear hHeld
  refine wpAnyH_take (i := 0) (oi := ⟨some 6, _, _, _, _, _⟩) (v := ?vs0) rfl (by kernel_rfl) (by kernel_rfl) (by kernel_rfl) (fun _ _ _ h => h) (Or.inl ⟨by rfl, ?ys0⟩) (Fr.refl _ _) ?rs0
  case ys0 =>
    intro wq hSw
    (try dsimp only at hSw)
    have hq := hSw.cell_some HX.out H0.out
    first | (go_simp; done) | (go_simp; with_reducible rfl)
  try simp only [Act.put, List.setIfInBounds_toArray, List.set_cons_zero, List.set_cons_succ]
  refine wpAnyH_take (i := 1) (oi := ⟨some 7, _, _, _, _, _⟩) (v := ?vs1) rfl (by kernel_rfl) (by kernel_rfl) (by kernel_rfl) (fun _ _ _ h => h) (Or.inl ⟨by rfl, ?ys1⟩) (Fr.refl _ _) ?rs1
  case ys1 =>
    intro wq hSw
    (try dsimp only at hSw)
    have hq := hSw.cell_some HX.out H0.out
    first | (go_simp; done) | (go_simp; with_reducible rfl)
  try simp only [Act.put, List.setIfInBounds_toArray, List.set_cons_zero, List.set_cons_succ]
  refine wpAnyH_take (i := 2) (oi := ⟨some 8, _, _, _, _, _⟩) (v := ?vs2) rfl (by kernel_rfl) (by kernel_rfl) (by kernel_rfl) (fun _ _ _ h => h) (Or.inl ⟨by rfl, ?ys2⟩) (Fr.refl _ _) ?rs2
  case ys2 =>
    intro wq hSw
    (try dsimp only at hSw)
    have hq := hSw.cell_some HX.out H0.out
    first | (go_simp; done) | (go_simp; with_reducible rfl)
  try simp only [Act.put, List.setIfInBounds_toArray, List.set_cons_zero, List.set_cons_succ]
  refine wpAnyH_take (i := 3) (oi := ⟨some 9, _, _, _, _, _⟩) (v := ?vs3) rfl (by kernel_rfl) (by kernel_rfl) (by kernel_rfl) (fun _ _ _ h => h) (Or.inl ⟨by rfl, ?ys3⟩) (Fr.refl _ _) ?rs3
  case ys3 =>
    intro wq hSw
    (try dsimp only at hSw)
    first | (go_simp; done) | (go_simp; with_reducible rfl)
  try simp only [Act.put, List.setIfInBounds_toArray, List.set_cons_zero, List.set_cons_succ]
  refine wpAnyH_take (i := 4) (oi := ⟨some 10, _, _, _, _, _⟩) (v := ?vs4) rfl (by kernel_rfl) (by kernel_rfl) (by kernel_rfl) (fun _ _ _ h => h) (Or.inl ⟨by rfl, ?ys4⟩) (Fr.refl _ _) ?rs4
  case ys4 =>
    intro wq hSw
    (try dsimp only at hSw)
    first | (go_simp; done) | (go_simp; with_reducible rfl)
  try simp only [Act.put, List.setIfInBounds_toArray, List.set_cons_zero, List.set_cons_succ]
  refine wpAnyH_take (i := 5) (oi := ⟨some 11, _, _, _, _, _⟩) (v := ?vs5) rfl (by kernel_rfl) (by kernel_rfl) (by kernel_rfl) (fun _ _ _ h => h) (Or.inl ⟨by rfl, ?ys5⟩) (Fr.refl _ _) ?rs5
  case ys5 =>
    intro wq hSw
    (try dsimp only at hSw)
    have hq := hSw.cell_some H4.out H4n.out
    first | (go_simp; done) | (go_simp; with_reducible rfl)
  try simp only [Act.put, List.setIfInBounds_toArray, List.set_cons_zero, List.set_cons_succ]
  refine wpAnyH_take (i := 8) (oi := ⟨some 14, _, _, _, _, _⟩) (v := ?vs8) rfl (by kernel_rfl) (by kernel_rfl) (by kernel_rfl) (fun _ _ _ h => h) (Or.inl ⟨by rfl, ?ys8⟩) (Fr.refl _ _) ?rs8
  case ys8 =>
    intro wq hSw
    (try dsimp only at hSw)
    first | (go_simp; done) | (go_simp; with_reducible rfl)
  try simp only [Act.put, List.setIfInBounds_toArray, List.set_cons_zero, List.set_cons_succ]
  refine wpAnyH_ready (rs := [6]) (by kernel_rfl) (by simp) ?_
  refine AllReadyH.cons (o := ⟨some 12, _, _, _, _, _⟩) rfl (fun K hK => ?_) AllReadyH.nil
  go_simp
  have hh := list14_any (.pointer (some ⟨M2, 0, none⟩)) p.n p.g wl.drew (HP.out.limbo.mp.keep (Below.drew (Below.refl _ _))) (HN.out.keep (Below.drew (Below.refl _ _)))
  unfold RetRns at hh
  obtain ⟨l, hl⟩ : ∃ l, l = plc p.n 0 p.g true := ⟨_, rfl⟩
  obtain ⟨q, hq⟩ : ∃ q, q = l.length := ⟨_, rfl⟩
  rw [← hl, ← hq] at hh
  have HL := Lib.hid hl
  have HQ := Lib.hid hq
  clear hl hq
  refine hh.mono ?_; clear hh; rintro e w2 ⟨A, c, rfl, ho, hb, -⟩
  have hfr : Fr (Tw B B2) wl.drew w2 := Fr.of_below hb
  have O2 := Lib.hid ho
  have B2b := Lib.hid (show Below wl.heap.size wl w2 from (Below.drew (Below.refl _ _)).trans hb)
  clear ho hb
  go_wp2_with fail
  refine hK.out _ _ hfr (fun hHeld => ?_)
  clear hK K hHeld
  try simp only [Act.put, List.setIfInBounds_toArray, List.set_cons_zero, List.set_cons_succ]
  refine wpAnyH_re (S' := fun w' => Fr (Tw B B2) w2 w') (fun w' h => hfr.trans h) ?_
  clear hfr
  refine wpAnyH_ready (rs := [7]) (by kernel_rfl) (by simp) ?_
  refine AllReadyH.cons (o := ⟨some 13, _, _, _, _, _⟩) rfl (fun K hK => ?_) AllReadyH.nil
  go_simp
  have hh := places_any P p.a q c A l w2 O2.out.sl HQ.out.symm (HP.out.later B2b.out).c2 (by
      have := plc_len_le (n := p.n) (a := 0) (f := p.g) (t := true)
      rw [← HL.out, ← HQ.out] at this
      have := HP.out.ok.n2
      omega) (by have := HP.out.ok.a2; omega) (fun x hx => by rw [HL.out] at hx; have := (plc_mem.1 hx).2.1; have := HP.out.ok.n2; omega)
  unfold RetPlaces at hh
  rw [← HQ.out] at hh
  refine hh.mono ?_; clear hh; rintro e w3 ⟨b, rfl, hr, hb, hbb⟩
  have hfr : Fr (Tw B B2) w2 w3 := Fr.of_below hb
  have R3 := Lib.hid hr
  have G3 := Lib.hid (show wl.heap.size ≤ b from by have := B2b.out.size; omega)
  have B3b := Lib.hid (B2b.out.trans (hb.mono B2b.out.size))
  clear hr hb hbb
  go_wp2_with fail
  refine hK.out _ _ hfr (fun hHeld => ?_)
  clear hK K hHeld
  try simp only [Act.put, List.setIfInBounds_toArray, List.set_cons_zero, List.set_cons_succ]
  refine wpAnyH_re (S' := fun w' => Fr (Tw B B2) w3 w') (fun w' h => hfr.trans h) ?_
  clear hfr
  refine wpAnyH_ready (rs := [9]) (by kernel_rfl) (by simp) ?_
  refine AllReadyH.cons (o := ⟨some 15, _, _, _, _, _⟩) rfl (fun K hK => ?_) AllReadyH.nil
  go_simp
  have hh := become_any settleS settleS_step 34 (enters_of Tryd.func34 (by kernel_rfl) rfl) #[] #[.pointer (some ⟨w.heap.size, 0, none⟩)] P M B M2 B2 p (some ⟨b, 0, none⟩) q q (intsOf (placesL p l)) w3 (HP.out.later B3b.out) (by rw [intsOf, ← ncells_icells]; exact R3.out.sl) (by rw [intsOf_length, placesL, List.length_map, HQ.out]) (fun z hz => by
      obtain ⟨x, hx, rfl⟩ := List.mem_map.1 hz
      obtain ⟨y, hy, rfl⟩ := List.mem_map.1 hx
      rw [HL.out] at hy
      have := (plc_mem.1 hy).2.1
      have := HP.out.ok.a2
      omega) (fun b' o' _ e => by
      injection e with e
      injection e with e _
      have := HP.out.busy.ltB
      have := HP.out.limbo.ltB
      have := G3.out
      rintro (h | h) <;> omega) (fun W q' i hf hq => settle1_any i W hq (hf.cell_some ((Fr.of_below B3b.out : Fr (fun _ => False) _ _).cell_some HX.out (fun h => h)) H0.out) (fun e => H0.out (.inr e)))
  unfold RetBec at hh
  have hcnt := settle_cnt HP.out.ok
  rw [← HL.out] at hcnt
  rw [bec_settle, hcnt] at hh
  refine hh.mono ?_; clear hh hcnt; rintro e w4 ⟨rfl, hp4, hf4⟩
  have hfr : Fr (Tw B B2) w3 w4 := hf4
  rw [HL.out] at hp4
  have HP6 := Lib.hid (settle_all hp4)
  have HF6 := Lib.hid (((Fr.of_below HB.out : Fr (own14 P M B M2 B2) w wl).trans (Fr.of_below B3b.out)).trans hf4.tw)
  clear hp4 hf4
  go_wp2_with fail
  refine hK.out _ _ hfr (fun hHeld => ?_)
  clear hK K hHeld
  try simp only [Act.put, List.setIfInBounds_toArray, List.set_cons_zero, List.set_cons_succ]
  refine wpAnyH_re (S' := fun w' => Fr (Tw B B2) w4 w') (fun w' h => hfr.trans h) ?_
  clear hfr
  refine wpAnyH_take (i := 10) (oi := ⟨some 2, _, _, _, _, _⟩) (v := ?vs10) rfl (by kernel_rfl) (by kernel_rfl) (by kernel_rfl) (fun _ _ _ h => h) (Or.inl ⟨by rfl, ?ys10⟩) (Fr.refl _ _) ?rs10
  case ys10 =>
    intro wq hSw
    (try dsimp only at hSw)
    first | (go_simp; done) | (go_simp; with_reducible rfl)
  try simp only [Act.put, List.setIfInBounds_toArray, List.set_cons_zero, List.set_cons_succ]
  refine wpAnyH_done (by kernel_rfl) ?_ _
  go_wp2_with fail
  go_ret
  exact ⟨rfl, ⟨M, B, M2, B2, rfl, HP6.out⟩, HF6.out⟩
/-! Free, Limbo, Taken. -/
theorem free_no (v : Value) (w : World) (h : No14 w v) :
    Calls Tryd.prog 14 #[v] w fun e w' => e = .returned (.int .i64 0) ∧ Below w.heap.size w w' := by
  have hm := h.made
  clear h
  go_enter Tryd.func14, Tryd.ntmps14
  go_wp2_with fail
  refine hm.mono ?_; clear hm; rintro e w1 ⟨rfl, rfl⟩
  go_wp2_with fail
  go_ret
  exact ⟨rfl, Below.refl _ _⟩
theorem free_any (S : Nat → Prop) (P : Nat) (p : Ps) (w : World) (h : Pl w S P p) (hN : Tz w) :
    Calls Tryd.prog 14 #[.pointer (some ⟨P, 0, none⟩)] w fun e w' => e = .returned (.int .i64 ((p.n : Int) - (cntL p.n p.f : Int))) ∧ Below w.heap.size w w' := by
  obtain ⟨M, B, M2, B2, -, hp⟩ := h
  have hm := pmade_yes P M w hp.c3
  have HB := Lib.hid hp.busy
  have H3 := Lib.hid hp.c3
  have HN := Lib.hid hN
  have hc := plc_len_le (n := p.n) (a := 0) (f := p.f) (t := true)
  have h4 := hp.ok.n2
  have hwn : IntKind.i64.wrap ((p.n : Int) - (cntL p.n p.f : Int)) = (p.n : Int) - (cntL p.n p.f : Int) := by rw [IntKind.wrap_i64]; unfold cntL; omega
  obtain ⟨k, hk⟩ : ∃ k, k = cntL p.n p.f := ⟨_, rfl⟩
  rw [← hk] at hwn ⊢
  have HK := Lib.hid hk
  have HW := Lib.hid hwn
  clear hp hN hk hwn hc h4
  go_enter Tryd.func14, Tryd.ntmps14
  go_wp2_with fail
  refine hm.mono ?_; clear hm; rintro e w1 ⟨rfl, hw1⟩
  obtain rfl : w = w1 := hw1.symm
  go_wp2_with fail
  refine wp_region_held_drew (S := fun w' => Fr (fun _ => False) w.drew w') (by kernel_rfl) (Fr.refl _ _) (fun hHeld => ?_)
  clear hHeld
  refine wpAnyH_take (i := 0) (oi := ⟨some 6, _, _, _, _, _⟩) (v := ?vf0) rfl (by kernel_rfl) (by kernel_rfl) (by kernel_rfl) (fun _ _ _ h => h) (Or.inl ⟨by rfl, ?yf0⟩) (Fr.refl _ _) ?rf0
  case yf0 =>
    intro wq hSw
    (try dsimp only at hSw)
    first | (go_simp; done) | (go_simp; with_reducible rfl)
  try simp only [Act.put, List.setIfInBounds_toArray, List.set_cons_zero, List.set_cons_succ]
  refine wpAnyH_take (i := 1) (oi := ⟨some 7, _, _, _, _, _⟩) (v := ?vf1) rfl (by kernel_rfl) (by kernel_rfl) (by kernel_rfl) (fun _ _ _ h => h) (Or.inl ⟨by rfl, ?yf1⟩) (Fr.refl _ _) ?rf1
  case yf1 =>
    intro wq hSw
    (try dsimp only at hSw)
    first | (go_simp; done) | (go_simp; with_reducible rfl)
  try simp only [Act.put, List.setIfInBounds_toArray, List.set_cons_zero, List.set_cons_succ]
  refine wpAnyH_take (i := 2) (oi := ⟨some 8, _, _, _, _, _⟩) (v := ?vf2) rfl (by kernel_rfl) (by kernel_rfl) (by kernel_rfl) (fun _ _ _ h => h) (Or.inl ⟨by rfl, ?yf2⟩) (Fr.refl _ _) ?rf2
  case yf2 =>
    intro wq hSw
    (try dsimp only at hSw)
    first | (go_simp; done) | (go_simp; with_reducible rfl)
  try simp only [Act.put, List.setIfInBounds_toArray, List.set_cons_zero, List.set_cons_succ]
  refine wpAnyH_take (i := 3) (oi := ⟨some 9, _, _, _, _, _⟩) (v := ?vf3) rfl (by kernel_rfl) (by kernel_rfl) (by kernel_rfl) (fun _ _ _ h => h) (Or.inl ⟨by rfl, ?yf3⟩) (Fr.refl _ _) ?rf3
  case yf3 =>
    intro wq hSw
    (try dsimp only at hSw)
    have hq := hSw.cell_some H3.out (fun h => h)
    first | (go_simp; done) | (go_simp; with_reducible rfl)
  try simp only [Act.put, List.setIfInBounds_toArray, List.set_cons_zero, List.set_cons_succ]
  refine wpAnyH_take (i := 5) (oi := ⟨some 11, _, _, _, _, _⟩) (v := ?vf5) rfl (by kernel_rfl) (by kernel_rfl) (by kernel_rfl) (fun _ _ _ h => h) (Or.inl ⟨by rfl, ?yf5⟩) (Fr.refl _ _) ?rf5
  case yf5 =>
    intro wq hSw
    (try dsimp only at hSw)
    first | (go_simp; done) | (go_simp; with_reducible rfl)
  try simp only [Act.put, List.setIfInBounds_toArray, List.set_cons_zero, List.set_cons_succ]
  refine wpAnyH_take (i := 6) (oi := ⟨some 12, _, _, _, _, _⟩) (v := ?vf6) rfl (by kernel_rfl) (by kernel_rfl) (by kernel_rfl) (fun _ _ _ h => h) (Or.inl ⟨by rfl, ?yf6⟩) (Fr.refl _ _) ?rf6
  case yf6 =>
    intro wq hSw
    (try dsimp only at hSw)
    first | (go_simp; done) | (go_simp; with_reducible rfl)
  try simp only [Act.put, List.setIfInBounds_toArray, List.set_cons_zero, List.set_cons_succ]
  refine wpAnyH_take (i := 7) (oi := ⟨some 13, _, _, _, _, _⟩) (v := ?vf7) rfl (by kernel_rfl) (by kernel_rfl) (by kernel_rfl) (fun _ _ _ h => h) (Or.inl ⟨by rfl, ?yf7⟩) (Fr.refl _ _) ?rf7
  case yf7 =>
    intro wq hSw
    (try dsimp only at hSw)
    first | (go_simp; done) | (go_simp; with_reducible rfl)
  try simp only [Act.put, List.setIfInBounds_toArray, List.set_cons_zero, List.set_cons_succ]
  refine wpAnyH_take (i := 8) (oi := ⟨some 14, _, _, _, _, _⟩) (v := ?vf8) rfl (by kernel_rfl) (by kernel_rfl) (by kernel_rfl) (fun _ _ _ h => h) (Or.inl ⟨by rfl, ?yf8⟩) (Fr.refl _ _) ?rf8
  case yf8 =>
    intro wq hSw
    (try dsimp only at hSw)
    have hq := hSw.cell_some H3.out (fun h => h)
    first | (go_simp; done) | (go_simp; with_reducible rfl)
  try simp only [Act.put, List.setIfInBounds_toArray, List.set_cons_zero, List.set_cons_succ]
  refine wpAnyH_ready (rs := [4]) (by kernel_rfl) (by simp) ?_
  refine AllReadyH.cons (o := ⟨some 10, _, _, _, _, _⟩) rfl (fun K hK => ?_) AllReadyH.nil
  go_simp
  refine (mlen_any (.pointer (some ⟨M, 0, none⟩)) p.n p.f w.drew (HB.out.mp.keep (Below.drew (Below.refl _ _)))).mono ?_; rintro e w2 ⟨rfl, hw2⟩
  obtain rfl : w.drew = w2 := hw2.symm
  have hfr : Fr (fun _ => False) w.drew w.drew := Fr.refl _ _
  go_wp2_with fail
  refine hK.out _ _ hfr (fun hHeld => ?_)
  clear hK K hHeld
  try simp only [Act.put, List.setIfInBounds_toArray, List.set_cons_zero, List.set_cons_succ]
  refine wpAnyH_re (S' := fun w' => Fr (fun _ => False) w.drew w') (fun w' h => hfr.trans h) ?_
  clear hfr
  refine wpAnyH_ready (rs := [9]) (by kernel_rfl) (by simp) ?_
  refine AllReadyH.cons (o := ⟨some 15, _, _, _, _, _⟩) rfl (fun K hK => ?_) AllReadyH.nil
  go_simp
  have hh := count_any (.pointer (some ⟨M, 0, none⟩)) p.n p.f w.drew (HB.out.mp.keep (Below.drew (Below.refl _ _))) (HN.out.keep (Below.drew (Below.refl _ _)))
  rw [← HK.out] at hh
  refine hh.mono ?_; clear hh; rintro e w2 ⟨rfl, hw2⟩
  obtain rfl : w.drew = w2 := hw2.symm
  have hfr : Fr (fun _ => False) w.drew w.drew := Fr.refl _ _
  have BF := Lib.hid (Below.drew (Below.refl w.heap.size w))
  go_wp2_with fail
  refine hK.out _ _ hfr (fun hHeld => ?_)
  clear hK K hHeld
  try simp only [Act.put, List.setIfInBounds_toArray, List.set_cons_zero, List.set_cons_succ]
  refine wpAnyH_re (S' := fun w' => Fr (fun _ => False) w.drew w') (fun w' h => hfr.trans h) ?_
  clear hfr
  refine wpAnyH_take (i := 10) (oi := ⟨some 16, _, _, _, _, _⟩) (v := ?vf10) rfl (by kernel_rfl) (by kernel_rfl) (by kernel_rfl) (fun _ _ _ h => h) (Or.inl ⟨by rfl, ?yf10⟩) (Fr.refl _ _) ?rf10
  case yf10 =>
    intro wq hSw
    (try dsimp only at hSw)
    have hw := HW.out
    first | (go_simp; done) | (go_simp; with_reducible rfl)
  try simp only [Act.put, List.setIfInBounds_toArray, List.set_cons_zero, List.set_cons_succ]
  refine wpAnyH_take (i := 11) (oi := ⟨some 2, _, _, _, _, _⟩) (v := ?vf11) rfl (by kernel_rfl) (by kernel_rfl) (by kernel_rfl) (fun _ _ _ h => h) (Or.inl ⟨by rfl, ?yf11⟩) (Fr.refl _ _) ?rf11
  case yf11 =>
    intro wq hSw
    (try dsimp only at hSw)
    first | (go_simp; done) | (go_simp; with_reducible rfl)
  try simp only [Act.put, List.setIfInBounds_toArray, List.set_cons_zero, List.set_cons_succ]
  refine wpAnyH_done (by kernel_rfl) ?_ _
  go_wp2_with fail
  go_ret
  exact ⟨rfl, BF.out⟩
theorem limbo_no (v : Value) (w : World) (h : No14 w v) :
    Calls Tryd.prog 15 #[v] w fun e w' => e = .returned (.int .i64 0) ∧ Below w.heap.size w w' := by
  have hm := h.made
  clear h
  go_enter Tryd.func15, Tryd.ntmps15
  go_wp2_with fail
  refine hm.mono ?_; clear hm; rintro e w1 ⟨rfl, rfl⟩
  go_wp2_with fail
  go_ret
  exact ⟨rfl, Below.refl _ _⟩
theorem limbo_any (S : Nat → Prop) (P : Nat) (p : Ps) (w : World) (h : Pl w S P p) (hN : Tz w) :
    Calls Tryd.prog 15 #[.pointer (some ⟨P, 0, none⟩)] w fun e w' => e = .returned (.int .i64 (cntL p.n p.g : Int)) ∧ Below w.heap.size w w' := by
  obtain ⟨M, B, M2, B2, -, hp⟩ := h
  have hm := pmade_yes P M w hp.c3
  have hc := count_any _ p.n p.g w hp.limbo.mp hN
  have h4 := hp.c4
  clear hp hN
  go_enter Tryd.func15, Tryd.ntmps15
  go_wp2_with fail
  refine hm.mono ?_; clear hm; rintro e w1 ⟨rfl, hw1⟩
  obtain rfl : w = w1 := hw1.symm
  go_wp2_with fail
  refine hc.mono ?_; clear hc; rintro e w2 ⟨rfl, hw2⟩
  obtain rfl : w = w2 := hw2.symm
  go_wp2_with fail
  go_ret
  exact ⟨rfl, Below.refl _ _⟩
theorem taken_no (v : Value) (w : World) (h : No14 w v) :
    Calls Tryd.prog 16 #[v] w fun e w' => e = .returned (.slice none 0 0) ∧ Below w.heap.size w w' := by
  have hm := h.made
  clear h
  go_enter Tryd.func16, Tryd.ntmps16
  go_wp2_with fail
  refine hm.mono ?_; clear hm; rintro e w1 ⟨rfl, rfl⟩
  go_wp2_with fail
  go_ret
  exact ⟨rfl, Below.refl _ _⟩
theorem taken_any (S : Nat → Prop) (P : Nat) (p : Ps) (w : World) (h : Pl w S P p) (hN : Tz w) :
    Calls Tryd.prog 16 #[.pointer (some ⟨P, 0, none⟩)] w (RetPlaces p.a (takenL p) w) := by
  obtain ⟨M, B, M2, B2, -, hp⟩ := h
  have hm := pmade_yes P M w hp.c3
  have HP := Lib.hid hp
  have H3 := Lib.hid hp.c3
  have H4 := Lib.hid hp.c4
  have HN := Lib.hid hN
  clear hp hN
  go_enter Tryd.func16, Tryd.ntmps16
  go_wp2_with fail
  refine hm.mono ?_; clear hm; rintro e w1 ⟨rfl, hw1⟩
  obtain rfl : w = w1 := hw1.symm
  go_wp2_with fail
  refine wp_region_held_drew (S := fun w' => Fr (fun b => w.heap.size ≤ b) w.drew w') (by kernel_rfl) (Fr.refl _ _) (fun hHeld => ?_)
  clear hHeld
  refine wpAnyH_take (i := 0) (oi := ⟨some 6, _, _, _, _, _⟩) (v := ?vt0) rfl (by kernel_rfl) (by kernel_rfl) (by kernel_rfl) (fun _ _ _ h => h) (Or.inl ⟨by rfl, ?yt0⟩) (Fr.refl _ _) ?rt0
  case yt0 =>
    intro wq hSw
    (try dsimp only at hSw)
    first | (go_simp; done) | (go_simp; with_reducible rfl)
  try simp only [Act.put, List.setIfInBounds_toArray, List.set_cons_zero, List.set_cons_succ]
  refine wpAnyH_take (i := 1) (oi := ⟨some 7, _, _, _, _, _⟩) (v := ?vt1) rfl (by kernel_rfl) (by kernel_rfl) (by kernel_rfl) (fun _ _ _ h => h) (Or.inl ⟨by rfl, ?yt1⟩) (Fr.refl _ _) ?rt1
  case yt1 =>
    intro wq hSw
    (try dsimp only at hSw)
    first | (go_simp; done) | (go_simp; with_reducible rfl)
  try simp only [Act.put, List.setIfInBounds_toArray, List.set_cons_zero, List.set_cons_succ]
  refine wpAnyH_take (i := 2) (oi := ⟨some 8, _, _, _, _, _⟩) (v := ?vt2) rfl (by kernel_rfl) (by kernel_rfl) (by kernel_rfl) (fun _ _ _ h => h) (Or.inl ⟨by rfl, ?yt2⟩) (Fr.refl _ _) ?rt2
  case yt2 =>
    intro wq hSw
    (try dsimp only at hSw)
    first | (go_simp; done) | (go_simp; with_reducible rfl)
  try simp only [Act.put, List.setIfInBounds_toArray, List.set_cons_zero, List.set_cons_succ]
  refine wpAnyH_take (i := 3) (oi := ⟨some 9, _, _, _, _, _⟩) (v := ?vt3) rfl (by kernel_rfl) (by kernel_rfl) (by kernel_rfl) (fun _ _ _ h => h) (Or.inl ⟨by rfl, ?yt3⟩) (Fr.refl _ _) ?rt3
  case yt3 =>
    intro wq hSw
    (try dsimp only at hSw)
    first | (go_simp; done) | (go_simp; with_reducible rfl)
  try simp only [Act.put, List.setIfInBounds_toArray, List.set_cons_zero, List.set_cons_succ]
  refine wpAnyH_take (i := 4) (oi := ⟨some 10, _, _, _, _, _⟩) (v := ?vt4) rfl (by kernel_rfl) (by kernel_rfl) (by kernel_rfl) (fun _ _ _ h => h) (Or.inl ⟨by rfl, ?yt4⟩) (Fr.refl _ _) ?rt4
  case yt4 =>
    intro wq hSw
    (try dsimp only at hSw)
    have hq := hSw.cell_some H3.out (by show ¬ w.heap.size ≤ P; have := HP.out.ltP; omega)
    first | (go_simp; done) | (go_simp; with_reducible rfl)
  try simp only [Act.put, List.setIfInBounds_toArray, List.set_cons_zero, List.set_cons_succ]
  refine wpAnyH_take (i := 6) (oi := ⟨some 12, _, _, _, _, _⟩) (v := ?vt6) rfl (by kernel_rfl) (by kernel_rfl) (by kernel_rfl) (fun _ _ _ h => h) (Or.inl ⟨by rfl, ?yt6⟩) (Fr.refl _ _) ?rt6
  case yt6 =>
    intro wq hSw
    (try dsimp only at hSw)
    first | (go_simp; done) | (go_simp; with_reducible rfl)
  try simp only [Act.put, List.setIfInBounds_toArray, List.set_cons_zero, List.set_cons_succ]
  refine wpAnyH_take (i := 7) (oi := ⟨some 13, _, _, _, _, _⟩) (v := ?vt7) rfl (by kernel_rfl) (by kernel_rfl) (by kernel_rfl) (fun _ _ _ h => h) (Or.inl ⟨by rfl, ?yt7⟩) (Fr.refl _ _) ?rt7
  case yt7 =>
    intro wq hSw
    (try dsimp only at hSw)
    first | (go_simp; done) | (go_simp; with_reducible rfl)
  try simp only [Act.put, List.setIfInBounds_toArray, List.set_cons_zero, List.set_cons_succ]
  refine wpAnyH_take (i := 8) (oi := ⟨some 14, _, _, _, _, _⟩) (v := ?vt8) rfl (by kernel_rfl) (by kernel_rfl) (by kernel_rfl) (fun _ _ _ h => h) (Or.inl ⟨by rfl, ?yt8⟩) (Fr.refl _ _) ?rt8
  case yt8 =>
    intro wq hSw
    (try dsimp only at hSw)
    first | (go_simp; done) | (go_simp; with_reducible rfl)
  try simp only [Act.put, List.setIfInBounds_toArray, List.set_cons_zero, List.set_cons_succ]
  refine wpAnyH_take (i := 9) (oi := ⟨some 15, _, _, _, _, _⟩) (v := ?vt9) rfl (by kernel_rfl) (by kernel_rfl) (by kernel_rfl) (fun _ _ _ h => h) (Or.inl ⟨by rfl, ?yt9⟩) (Fr.refl _ _) ?rt9
  case yt9 =>
    intro wq hSw
    (try dsimp only at hSw)
    have hq := hSw.cell_some H4.out (by show ¬ w.heap.size ≤ P; have := HP.out.ltP; omega)
    first | (go_simp; done) | (go_simp; with_reducible rfl)
  try simp only [Act.put, List.setIfInBounds_toArray, List.set_cons_zero, List.set_cons_succ]
  refine wpAnyH_take (i := 10) (oi := ⟨some 16, _, _, _, _, _⟩) (v := ?vt10) rfl (by kernel_rfl) (by kernel_rfl) (by kernel_rfl) (fun _ _ _ h => h) (Or.inl ⟨by rfl, ?yt10⟩) (Fr.refl _ _) ?rt10
  case yt10 =>
    intro wq hSw
    (try dsimp only at hSw)
    first | (go_simp; done) | (go_simp; with_reducible rfl)
  try simp only [Act.put, List.setIfInBounds_toArray, List.set_cons_zero, List.set_cons_succ]
  refine wpAnyH_ready (rs := [5]) (by kernel_rfl) (by simp) ?_
  refine AllReadyH.cons (o := ⟨some 11, _, _, _, _, _⟩) rfl (fun K hK => ?_) AllReadyH.nil
  go_simp
  have hh := list14_any (.pointer (some ⟨M, 0, none⟩)) p.n p.f w.drew (HP.out.busy.mp.keep (Below.drew (Below.refl _ _))) (HN.out.keep (Below.drew (Below.refl _ _)))
  unfold RetRns at hh
  obtain ⟨l, hl⟩ : ∃ l, l = plc p.n 0 p.f true := ⟨_, rfl⟩
  obtain ⟨q, hq⟩ : ∃ q, q = l.length := ⟨_, rfl⟩
  rw [← hl, ← hq] at hh
  have HL := Lib.hid hl
  have HQ := Lib.hid hq
  clear hl hq
  refine hh.mono ?_; clear hh; rintro e w2 ⟨A, c, rfl, ho, hb, hA⟩
  have hfr : Fr (fun b => w.heap.size ≤ b) w.drew w2 := Fr.of_below hb
  have O2 := Lib.hid ho
  have HA := Lib.hid (show ∀ b, Bk A b → w.heap.size ≤ b from hA)
  have B2b := Lib.hid (show Below w.heap.size w w2 from (Below.drew (Below.refl _ _)).trans hb)
  clear ho hb hA
  go_wp2_with fail
  refine hK.out _ _ hfr (fun hHeld => ?_)
  clear hK K hHeld
  try simp only [Act.put, List.setIfInBounds_toArray, List.set_cons_zero, List.set_cons_succ]
  refine wpAnyH_re (S' := fun w' => Fr (fun b => w.heap.size ≤ b) w2 w') (fun w' h => hfr.trans h) ?_
  clear hfr
  refine wpAnyH_ready (rs := [11]) (by kernel_rfl) (by simp) ?_
  refine AllReadyH.cons (o := ⟨some 17, _, _, _, _, _⟩) rfl (fun K hK => ?_) AllReadyH.nil
  go_simp
  have hsays : Says14 (Bk A) w2 30 (.pointer (some ⟨M2, 0, none⟩)) p.g l := by
    intro W hW x hx
    rw [HL.out] at hx
    have hxn := (plc_mem.1 hx).2.1
    have hl2 := (HP.out.later B2b.out).limbo
    have hl3 := hl2.fr hW (fun h => by have := HA.out _ h; have := HP.out.limbo.ltM; omega) (fun h => by have := HA.out _ h; have := HP.out.limbo.ltB; omega)
    have hh := has_any (.pointer (some ⟨M2, 0, none⟩)) p.n p.g (x : Int) W hl3.mp
    rwa [show inB p.n (x : Int) = true by simp [inB]; omega, Bool.true_and, Int.toNat_natCast] at hh
  have hh := deletef_any 30 (enters_of Tryd.func30 (by kernel_rfl) rfl) (.pointer (some ⟨M2, 0, none⟩)) p.g A q c l w2 O2.out HQ.out.symm hsays
  clear hsays
  unfold RetKept at hh
  rw [show keepL p.g l = takenL p from by rw [HL.out]; rfl] at hh
  obtain ⟨q2, hq2⟩ : ∃ q, q = (takenL p).length := ⟨_, rfl⟩
  rw [← hq2] at hh
  have HLT := Lib.hid hq2
  clear hq2
  refine hh.mono ?_; clear hh; rintro e w3 ⟨rfl, hs, hf⟩
  have hfr : Fr (fun b => w.heap.size ≤ b) w2 w3 := hf.mono HA.out
  have S3 := Lib.hid hs
  have B3b := Lib.hid (B2b.out.trans (hfr.below B2b.out.size (fun _ h => h)))
  clear hs hf
  go_wp2_with fail
  refine hK.out _ _ hfr (fun hHeld => ?_)
  clear hK K hHeld
  try simp only [Act.put, List.setIfInBounds_toArray, List.set_cons_zero, List.set_cons_succ]
  refine wpAnyH_re (S' := fun w' => Fr (fun b => w.heap.size ≤ b) w3 w') (fun w' h => hfr.trans h) ?_
  clear hfr
  refine wpAnyH_ready (rs := [12]) (by kernel_rfl) (by simp) ?_
  refine AllReadyH.cons (o := ⟨some 18, _, _, _, _, _⟩) rfl (fun K hK => ?_) AllReadyH.nil
  go_simp
  have hh := places_any P p.a q2 c A (takenL p) w3 S3.out HLT.out.symm (HP.out.later B3b.out).c2 (by
      have := plc_len_le (n := p.n) (a := 0) (f := p.f) (t := true)
      have h2 := List.length_filter_le (fun i => !p.g i) (plc p.n 0 p.f true)
      have h3 : (takenL p).length ≤ (plc p.n 0 p.f true).length := h2
      rw [← HLT.out] at h3
      have := HP.out.ok.n2
      omega) (by have := HP.out.ok.a2; omega) (fun x hx => by have := (takenL_mem.1 hx).1; have := HP.out.ok.n2; omega)
  unfold RetPlaces at hh
  rw [← HLT.out] at hh
  refine hh.mono ?_; clear hh; rintro e w4 ⟨b, rfl, hr, hb, hbb⟩
  have hfr : Fr (fun b => w.heap.size ≤ b) w3 w4 := Fr.of_below hb
  have HR := Lib.hid hr
  have HBB := Lib.hid (show w.heap.size ≤ b from by have := B3b.out.size; omega)
  have BT := Lib.hid (B3b.out.trans (hb.mono B3b.out.size))
  clear hr hb hbb
  go_wp2_with fail
  refine hK.out _ _ hfr (fun hHeld => ?_)
  clear hK K hHeld
  try simp only [Act.put, List.setIfInBounds_toArray, List.set_cons_zero, List.set_cons_succ]
  refine wpAnyH_re (S' := fun w' => Fr (fun b => w.heap.size ≤ b) w4 w') (fun w' h => hfr.trans h) ?_
  clear hfr
  refine wpAnyH_take (i := 13) (oi := ⟨some 2, _, _, _, _, _⟩) (v := ?vt13) rfl (by kernel_rfl) (by kernel_rfl) (by kernel_rfl) (fun _ _ _ h => h) (Or.inl ⟨by rfl, ?yt13⟩) (Fr.refl _ _) ?rt13
  case yt13 =>
    intro wq hSw
    (try dsimp only at hSw)
    first | (go_simp; done) | (go_simp; with_reducible rfl)
  try simp only [Act.put, List.setIfInBounds_toArray, List.set_cons_zero, List.set_cons_succ]
  refine wpAnyH_done (by kernel_rfl) ?_ _
  go_wp2_with fail
  go_ret
  exact ⟨b, by rw [← HLT.out]; rfl, by rw [← HLT.out]; exact HR.out, BT.out, HBB.out⟩
end Go.Proofs.YtgkdpljlgdlekaaDoor

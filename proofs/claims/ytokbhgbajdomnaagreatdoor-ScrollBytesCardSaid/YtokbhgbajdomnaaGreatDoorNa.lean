/-
  Layer 14, plain: a pool's places and generations, and what each call makes of them. No program. And what goes with it below the laws of layer 13. No condition but what each theorem says.
-/
import Derived.Test.YtokbhgbajdomnaaGreatDoorMa
import Derived.Test.YtokbhgbajdomnaaGreatDoorMb
import Derived.Lib.SliceRun
import Derived.Deep.RegionHeld
set_option linter.unusedVariables false
set_option maxRecDepth 20000
set_option maxHeartbeats 1600000
namespace Go.Proofs.YtokbhgbajdomnaaGreatDoor
section
open Go.RowKit Go.Proofs
structure Ps where
 n : Nat
 a : Nat
 e : Nat
 t : Nat
 f : Nat → Bool
 g : Nat → Bool
structure Ps.Ok (p : Ps) : Prop where
 n1 : 1 ≤ p.n
 n2 : p.n ≤ 400
 a2 : p.a + p.n ≤ 600
 t2 : p.t ≤ 1048576
 e2 : p.e < 1099511627776
 sub : ∀ i, i < p.n → p.g i = true → p.f i = true
def newP (a n : Nat) : Ps := ⟨n, a, 0, 0, fun _ => false, fun _ => false⟩
def takeS (p : Ps) (i : Int) : Bool × Ps := (setB p.n p.f i true, { p with f := setF p.n p.f i true })
def becL (st : Ps → Int → Bool × Ps) (a : Nat) : Nat × Ps → List Int → Nat × Ps
 | r, [] => r
 | r, z :: l => becL st a ((if (st r.2 (z - a)).1 = true then r.1 + 1 else r.1), (st r.2 (z - a)).2) l
structure Step14 (st : Ps → Int → Bool × Ps) : Prop where
 n : ∀ p i, (st p i).2.n = p.n
 a : ∀ p i, (st p i).2.a = p.a
 neg : ∀ p i, i < 0 → st p i = (false, p)
theorem inB_neg {n : Nat} {i : Int} (h : i < 0) : inB n i = false := by
 have h0 : ¬ 0 ≤ i := by omega
 simp [inB, h0]
theorem setB_neg {n : Nat} {f : Nat → Bool} {i : Int} {on : Bool} (h : i < 0) : setB n f i on = false := by rw [setB, inB_neg h, Bool.false_and]
theorem setF_neg {n : Nat} {f : Nat → Bool} {i : Int} {on : Bool} (h : i < 0) : setF n f i on = f := setF_same (setB_neg h)
theorem takeS_step : Step14 takeS := ⟨fun _ _ => rfl, fun _ _ => rfl, fun p i h => by rw [takeS, setB_neg h, setF_neg h]⟩
theorem setF_at (n : Nat) (f : Nat → Bool) (i : Int) (on : Bool) (j : Nat) : setF n f i on j = if j < n ∧ (j : Int) = i then on else f j := by
 rw [setF]
 by_cases hi : inB n i = true
 ·have hr : 0 ≤ i ∧ i < (n : Int) := by simpa [inB] using hi
  rw [if_pos hi, putB]
  by_cases e : j = i.toNat
  ·rw [if_pos e, if_pos ⟨by omega, by omega⟩]
  ·rw [if_neg e, if_neg (by omega)]
 ·rw [if_neg hi, if_neg]
  intro ⟨h1, h2⟩
  exact hi (by simp [inB]; omega)
def onL (p : Ps) (zs : List Int) (i : Nat) : Bool := decide (i < p.n ∧ ((p.a + i : Nat) : Int) ∈ zs)
theorem onL_nil (p : Ps) (i : Nat) : onL p [] i = false := by simp [onL]
theorem onL_cons (p : Ps) (z : Int) (l : List Int) (i : Nat) : onL p (z :: l) i = (decide (i < p.n ∧ (i : Int) = z - p.a) || onL p l i) := by
 rw [onL, onL, ← Bool.decide_or]
 congr 1
 rw [List.mem_cons, and_or_left]
 congr 2
 apply propext
 constructor <;> (intro h; omega)
def takeAll (p : Ps) (zs : List Int) : Ps := { p with f := fun i => p.f i || onL p zs i }
theorem Ps.ext {p q : Ps} (h1 : p.n = q.n) (h2 : p.a = q.a) (h3 : p.e = q.e) (h4 : p.t = q.t) (h5 : ∀ i, p.f i = q.f i) (h6 : ∀ i, p.g i = q.g i) : p = q := by
 cases p; cases q
 simp only at h1 h2 h3 h4 h5 h6
 subst h1 h2 h3 h4
 congr 1 <;> funext i
 ·exact h5 i
 ·exact h6 i
theorem bec_take : ∀ (zs : List Int) (c : Nat) (p : Ps), (becL takeS p.a (c, p) zs).2 = takeAll p zs
 | [], c, p => Ps.ext rfl rfl rfl rfl (fun i => by show p.f i = (p.f i || onL p [] i); rw [onL_nil, Bool.or_false]) (fun _ => rfl)
 | z :: l, c, p => by
  rw [becL]
  refine (bec_take l _ (takeS p (z - p.a)).2).trans ?_
  refine Ps.ext rfl rfl rfl rfl (fun i => ?_) (fun _ => rfl)
  show (setF p.n p.f (z - p.a) true i || onL p l i) = (p.f i || onL p (z :: l) i)
  rw [setF_at, onL_cons]
  by_cases h : i < p.n ∧ (i : Int) = z - p.a
  ·rw [if_pos h, decide_eq_true h]; cases p.f i <;> simp
  ·rw [if_neg h, decide_eq_false h, Bool.false_or]
theorem takeS_ok {p : Ps} (h : p.Ok) (i : Int) : (takeS p i).2.Ok := by
 refine ⟨h.n1, h.n2, h.a2, h.t2, h.e2, fun j hj hg => ?_⟩
 show setF p.n p.f i true j = true
 rw [setF_at]
 split
 ·rfl
 ·exact h.sub j hj hg
def placesL (p : Ps) (l : List Nat) : List Nat := l.map (p.a + ·)
end
section
open Go.RowKit Go.Proofs
theorem ncells_icells (l : List Nat) : ncells l = icells (l.map fun (n : Nat) => (n : Int)) := by simp [ncells, icells]
theorem icells_append (l k : List Int) : icells (l ++ k) = icells l ++ icells k := by simp [icells]
theorem icells_at {l : List Int} {j : Nat} (h : j < l.length) : (icells l)[j]? = some (.int .i64 (l.getD j 0)) := by
 rw [icells_get l j h]
 simp [h]
theorem ncells_at {l : List Nat} {j : Nat} (h : j < l.length) : (ncells l)[j]? = some (.int .i64 ((l.getD j 0 : Nat) : Int)) := by
 rw [ncells_get l j h]
 simp [h]
theorem makei14_eq (z : Int) (k : Nat) (hz : z = (k : Int)) (hk : k ≤ 1048576) (w : World) :
  (Instr.makeSlice 39 (.int .i64 z) (.int .i64 z)).run Tryz.prog w = .ok (.slice (some ⟨w.heap.size, 0, none⟩) k k) (w.alloc (.cells (madeCells #[.int .i64 0] k) 3)) := by
 obtain ⟨i0, hi, hz0, hz1, hz2⟩ := info_parts info_i
 subst hz
 have h := run_make (P := Tryz.prog) w 39 3 i0 (.int .i64 0) Tryz.underlying39 hi hz0 .i64 .i64 (k : Int) (k : Int) (by omega) (by omega) (by rw [hz2]; omega) (by omega)
 rw [hz1, Nat.mul_one, Int.toNat_natCast] at h
 exact h
theorem Rw.noughtsI (w : World) (k : Nat) (hk : k ≤ 1048576) : Rw (w.alloc (.cells (madeCells #[.int .i64 0] k) 3)) w.heap.size 3 1 k k (ncells (List.replicate k 0)) := by
 have h := Rw.new w (madeCells #[.int .i64 0] k) 3 1 k (by rw [size_madeCells, Nat.mul_one]) (by unfold maxLen; omega)
 rw [toList_madeCells_one] at h
 rwa [ncells, List.map_replicate]
theorem Rw.turnN {w : World} {B q c u : Nat} {ws : List Nat} (h : Rw w B 3 1 q c (ncells ws)) (hu : u < q) (y : Nat) : Rw (w.setCell ⟨B, u, none⟩ (.int .i64 (y : Int))) B 3 1 q c (ncells (ws.set u y)) := by
 have := h.store (o := u) (vs := [.int .i64 (y : Int)]) (by simp; omega) (by intro v hv; rw [List.mem_singleton.1 hv]; rfl)
 have e : (ncells ws).take u ++ [Value.int .i64 (y : Int)] ++ (ncells ws).drop (u + 1) = ncells (ws.set u y) := by
  rw [ncells, ncells, List.map_set, List.set_eq_take_append_cons_drop, if_pos (by rw [List.length_map]; have := h.len; rw [ncells_length] at this; omega)]
  simp
 rw [← e]
 exact this
def RetPlaces (a : Nat) (l : List Nat) (w : World) (e : Ending) (w' : World) : Prop := ∃ b, e = .returned (.slice (some ⟨b, 0, none⟩) l.length l.length) ∧ Rw w' b 3 1 l.length l.length (ncells (l.map (a + ·))) ∧ Below w.heap.size w w' ∧ w.heap.size ≤ b
theorem places_any (P a n c : Nat) (A : Option Addr) (l : List Nat) (w : World) (h : Sl w 1 A n c (ncells l)) (hn : l.length = n) (hP : w.cell? ⟨P, 2, none⟩ = some (.int .i64 (a : Int))) (hn2 : n ≤ 65536) (ha : a ≤ 600) (hl : ∀ x ∈ l, x < 65536) :
  Calls Tryz.prog 91 #[.pointer (some ⟨P, 0, none⟩), .slice A n c] w (RetPlaces a l w) := by
 have hmk := makei14_eq (n : Int) n rfl (by omega)
 have hP0 := World.block_lt_of_cell? w _ hP
 have H := qH h
 have HL := qH hl
 have HP := qH hP
 have HN := qH hn
 clear h hl hP hn
 go_enter Tryz.func91, Tryz.ntmps91
 go_wp2_with fail
 clear hmk
 go_loopw [13] (fun i wr => ∃ (j : Nat) (xs : List Nat), j ≤ n ∧ i = .int .i64 (j : Int) ∧ xs.length = n ∧ (∀ x, x < j → xs.getD x 0 = a + l.getD x 0) ∧ Rw wr w.heap.size 3 1 n n (ncells xs) ∧ Below w.heap.size w wr) (fun i _ => n - (intOf i).toNat)
 case atStart => exact ⟨0, _, by omega, rfl, by simp, fun x hx => absurd hx (by omega), Rw.noughtsI w n (by omega), (Below.refl _ _).alloc (Nat.le_refl _) _⟩
 case round =>
  obtain ⟨j, xs, hj, rfl, hxl, hall, hr, hb⟩ := hrel
  have Hall := qH hall
  have Hr := qH hr
  have Hxl := qH hxl
  by_cases hlt : j < n
  ·have hji : (j : Int) < (n : Int) := by omega
   obtain ⟨b, o, rfl, hc⟩ := (H.out.below hb (Nat.le_refl _)).at_ hlt
   have hc1 := hc j _ (ncells_at (l := l) (by rw [HN.out]; exact hlt))
   have hx65 := HL.out (l.getD j 0) (by rw [List.getD_eq_getElem?_getD, List.getElem?_eq_getElem (by rw [HN.out]; exact hlt)]; exact List.getElem_mem _)
   obtain ⟨x, hx⟩ : ∃ x, x = l.getD j 0 := ⟨_, rfl⟩
   rw [← hx] at hc1 hx65
   have Hx := qH hx
   have hPc : wr.cell? ⟨P, 2, none⟩ = some (.int .i64 (a : Int)) := (hb.cell (p := ⟨P, 2, none⟩) hP0).trans HP.out
   have hcw : wr.cell? ⟨w.heap.size, j, none⟩ = some (.int .i64 ((xs.getD j 0 : Nat) : Int)) := hr.cell (ncells_at (by rw [hxl]; exact hlt))
   have hfz := hr.free j
   have Hb := qH hb
   clear hc hx hxl hall hr hb
   go_wp2_with fail
   go_roundw
   case rel =>
    have hwn : IntKind.i64.wrap ((a : Int) + (x : Int)) = ((a + x : Nat) : Int) := by rw [IntKind.wrap_i64]; omega
    refine ⟨j + 1, xs.set j (a + x), by omega, by go_num, by rw [List.length_set, Hxl.out], fun y hy => ?_, ?_, Hb.out.setCell (p := ⟨w.heap.size, j, none⟩) (Nat.le_refl _) _⟩
    ·by_cases e : y = j
     ·subst e
      rw [List.getD_eq_getElem?_getD, List.getElem?_set_self (by rw [Hxl.out]; omega), Hx.out]
      rfl
     ·rw [List.getD_eq_getElem?_getD, List.getElem?_set_ne (by omega), ← List.getD_eq_getElem?_getD]
      exact Hall.out y (by omega)
    ·first | exact Hr.out.turnN hlt (a + x) | (rw [show ((a : Int) + (x : Int)) = ((a + x : Nat) : Int) from by omega]; exact Hr.out.turnN hlt (a + x))
   case measure => simp [intOf]; omega
  ·obtain rfl : j = n := by omega
   have Hb := qH hb
   clear hxl hall hr hb
   go_wp2_with fail
   go_ret
   have e : xs = l.map (a + ·) := List.ext_getElem (by rw [Hxl.out, List.length_map, HN.out]) fun i p1 p2 => by
    have := Hall.out i (by rw [← Hxl.out]; exact p1)
    rw [List.getD_eq_getElem?_getD, List.getD_eq_getElem?_getD, List.getElem?_eq_getElem p1, List.getElem?_eq_getElem (by simpa using p2)] at this
    simpa using this
   exact ⟨w.heap.size, by rw [HN.out]; rfl, by rw [HN.out, ← e]; exact Hr.out, Hb.out, Nat.le_refl _⟩
end
section
open Go.RowKit Go.Proofs
def Says14 (S : Nat → Prop) (w : World) (g : Nat) (v : Value) (d : Nat → Bool) (l : List Nat) : Prop := ∀ W, Fr S w W → ∀ x ∈ l, Calls Tryz.prog g #[v, .int .i64 (x : Int)] W fun e w' => e = .returned (.bool (d x)) ∧ w' = W
theorem getD_mem {l : List Nat} {j : Nat} (h : j < l.length) : l.getD j 0 ∈ l := by
 rw [List.getD_eq_getElem?_getD, List.getElem?_eq_getElem h]
 exact List.getElem_mem _
theorem indexf_any (g : Nat) (eg : ∀ args w, (callFunc g args).run Tryz.prog w = .ok (.enter g args) w) (v : Value) (d : Nat → Bool) (A : Option Addr) (n c : Nat) (l : List Nat) (w : World) (h : Sl w 1 A n c (ncells l)) (hl : l.length = n) (hd : Says14 (fun _ => False) w g v d l) :
  Calls Tryz.prog 229 #[.slice A n c, .func (.func g) #[v] #[]] w fun e w' => w' = w ∧ ((∃ r : Nat, e = .returned (.int .i64 (r : Int)) ∧ r < n ∧ d (l.getD r 0) = true ∧ ∀ x, x < r → d (l.getD x 0) = false) ∨ (e = .returned (.int .i64 (-1)) ∧ ∀ x, x < n → d (l.getD x 0) = false)) := by
 have hlim := h.lim
 unfold maxLen at hlim
 have H := qH h
 have HL := qH hl
 have HD := qH hd
 clear h hl hd
 go_enter Tryz.func229, Tryz.ntmps229
 go_wp2_with fail
 go_loopw [8] (fun i wr => ∃ j : Nat, j ≤ n ∧ i = .int .i64 (j : Int) ∧ (∀ x, x < j → d (l.getD x 0) = false) ∧ wr = w) (fun i _ => n - (intOf i).toNat)
 case atStart => exact ⟨0, by omega, rfl, fun x hx => absurd hx (by omega), rfl⟩
 case round =>
  obtain ⟨j, hj, rfl, hall, hw⟩ := hrel
  obtain rfl : w = wr := hw.symm
  have Hall := qH hall
  clear hall
  by_cases hlt : j < n
  ·have hji : (j : Int) < (n : Int) := by omega
   obtain ⟨b, o, rfl, hc⟩ := H.out.at_ hlt
   have hc1 := hc j _ (ncells_at (l := l) (by rw [HL.out]; exact hlt))
   have hcall := HD.out w (Fr.refl _ _) _ (getD_mem (l := l) (j := j) (by rw [HL.out]; exact hlt))
   obtain ⟨x, hx⟩ : ∃ x, x = l.getD j 0 := ⟨_, rfl⟩
   rw [← hx] at hc1 hcall
   have Hx := qH hx
   obtain ⟨y, hy⟩ : ∃ y, y = d x := ⟨_, rfl⟩
   rw [← hy] at hcall
   have Hy := qH hy
   clear hc hx hy
   cases y
   ·go_wp2_with fail
    refine hcall.mono ?_; clear hcall; rintro e w2 ⟨rfl, hw2⟩
    obtain rfl : w = w2 := hw2.symm
    go_wp2_with fail
    go_roundw
    case rel => exact ⟨j + 1, by omega, by go_num, fun z hz => by
     by_cases e : z = j
     ·rw [e, ← Hx.out, ← Hy.out]
     ·exact Hall.out z (by omega), trivial⟩
    case measure => simp [intOf]; omega
   ·go_wp2_with fail
    refine hcall.mono ?_; clear hcall; rintro e w2 ⟨rfl, hw2⟩
    obtain rfl : w = w2 := hw2.symm
    go_wp2_with fail
    go_ret
    exact ⟨rfl, .inl ⟨j, rfl, hlt, by rw [← Hx.out, ← Hy.out], Hall.out⟩⟩
  ·obtain rfl : j = n := by omega
   go_wp2_with fail
   go_ret
   exact ⟨rfl, .inr ⟨rfl, Hall.out⟩⟩
end
section
open Go.RowKit Go.Proofs
def Tw (B B2 : Nat) : Nat → Prop := fun b => b = B ∨ b = B2
structure PlAt (w : World) (P M B M2 B2 : Nat) (p : Ps) : Prop where
 row : w.heap[P]? = some (.cells #[.int .u64 (p.e : Int), .int .i64 (p.t : Int), .int .i64 (p.a : Int), .pointer (some ⟨M, 0, none⟩), .pointer (some ⟨M2, 0, none⟩)] 106 (0, 0))
 busy : Bp w M B p.n p.f
 limbo : Bp w M2 B2 p.n p.g
 ok : p.Ok
 pb : P ≠ B
 pb2 : P ≠ B2
 mb2 : M ≠ B2
 bm2 : M2 ≠ B
 bb2 : B ≠ B2
 pm : P ≠ M
 pm2 : P ≠ M2
section
variable {w w' : World} {P M B M2 B2 : Nat} {p q : Ps}
theorem PlAt.fr {S : Nat → Prop} (h : PlAt w P M B M2 B2 p) (hf : Fr S w w') (h1 : ¬ S P) (h2 : ¬ S M) (h3 : ¬ S B) (h4 : ¬ S M2) (h5 : ¬ S B2) : PlAt w' P M B M2 B2 p :=
 ⟨hf.row_some h.row h1, h.busy.fr hf h2 h3, h.limbo.fr hf h4 h5, h.ok, h.pb, h.pb2, h.mb2, h.bm2, h.bb2, h.pm, h.pm2⟩
theorem PlAt.later (h : PlAt w P M B M2 B2 p) (hb : Below w.heap.size w w') : PlAt w' P M B M2 B2 p := h.fr (Fr.of_below hb : Fr (fun _ => False) w w') (fun h => h) (fun h => h) (fun h => h) (fun h => h) (fun h => h)
theorem PlAt.c0 (h : PlAt w P M B M2 B2 p) : w.cell? ⟨P, 0, none⟩ = some (.int .u64 (p.e : Int)) := by rw [cell_of_row _ _ _ _ _ _ h.row]; rfl
theorem PlAt.c1 (h : PlAt w P M B M2 B2 p) : w.cell? ⟨P, 1, none⟩ = some (.int .i64 (p.t : Int)) := by rw [cell_of_row _ _ _ _ _ _ h.row]; rfl
theorem PlAt.c2 (h : PlAt w P M B M2 B2 p) : w.cell? ⟨P, 2, none⟩ = some (.int .i64 (p.a : Int)) := by rw [cell_of_row _ _ _ _ _ _ h.row]; rfl
theorem PlAt.c3 (h : PlAt w P M B M2 B2 p) : w.cell? ⟨P, 3, none⟩ = some (.pointer (some ⟨M, 0, none⟩)) := by rw [cell_of_row _ _ _ _ _ _ h.row]; rfl
theorem PlAt.free (h : PlAt w P M B M2 B2 p) (j : Nat) : w.frozen? ⟨P, j, none⟩ = false := frozen_of_row _ _ _ _ _ h.row
theorem PlAt.ltP (h : PlAt w P M B M2 B2 p) : P < w.heap.size := block_lt h.row
theorem PlAt.turn1 {f' : Nat → Bool} (h : PlAt w P M B M2 B2 p) (hb : Bp w' M B p.n f') (hf : Fr (fun b => b = B) w w') (ho : ({ p with f := f' } : Ps).Ok) : PlAt w' P M B M2 B2 { p with f := f' } :=
 ⟨hf.row_some h.row h.pb, hb, h.limbo.fr hf h.bm2 (fun e => h.bb2 e.symm), ho, h.pb, h.pb2, h.mb2, h.bm2, h.bb2, h.pm, h.pm2⟩
end
theorem Fr.tw1 {B B2 : Nat} {w w' : World} (h : Fr (fun b => b = B) w w') : Fr (Tw B B2) w w' := h.mono fun _ h => .inl h
theorem pmade_nil (w : World) : Calls Tryz.prog 74 #[.pointer none] w fun e w' => e = .returned (.bool false) ∧ w' = w := by
 go_enter Tryz.func74, Tryz.ntmps74
 go_wp2_with fail
 go_ret
 exact ⟨rfl, rfl⟩
theorem pmade_zero (P : Nat) (w : World) (h : w.cell? ⟨P, 3, none⟩ = some (.pointer none)) : Calls Tryz.prog 74 #[.pointer (some ⟨P, 0, none⟩)] w fun e w' => e = .returned (.bool false) ∧ w' = w := by
 go_enter Tryz.func74, Tryz.ntmps74
 go_wp2_with fail
 go_ret
 exact ⟨rfl, rfl⟩
theorem pmade_yes (P M : Nat) (w : World) (h : w.cell? ⟨P, 3, none⟩ = some (.pointer (some ⟨M, 0, none⟩))) : Calls Tryz.prog 74 #[.pointer (some ⟨P, 0, none⟩)] w fun e w' => e = .returned (.bool true) ∧ w' = w := by
 go_enter Tryz.func74, Tryz.ntmps74
 go_wp2_with fail
 go_ret
 exact ⟨rfl, rfl⟩
def RetS14 (st : Ps → Int → Bool × Ps) (P M B M2 B2 : Nat) (p : Ps) (i : Int) (w : World) (e : Ending) (w' : World) : Prop := e = .returned (.bool (st p i).1) ∧ PlAt w' P M B M2 B2 (st p i).2 ∧ Fr (Tw B B2) w w'
theorem take1_any {P M B M2 B2 : Nat} {p : Ps} (i : Int) (w : World) (h : PlAt w P M B M2 B2 p) :
  Calls Tryz.prog 93 #[.pointer (some ⟨P, 0, none⟩), .int .i64 i] w (RetS14 takeS P M B M2 B2 p i w) := by
 have hs := set_any M B p.n i p.f true w h.busy
 have h3 := h.c3
 have H := qH h
 clear h
 go_enter Tryz.func93, Tryz.ntmps93
 go_wp2_with fail
 refine hs.mono ?_; clear hs; rintro e w2 ⟨rfl, hb, hf⟩
 have h4 := qH (H.out.turn1 hb hf (takeS_ok H.out.ok i))
 have hF := qH (hf.tw1 : Fr (Tw B B2) w w2)
 clear hb hf
 go_wp2_with fail
 go_ret
 exact ⟨rfl, h4.out, hF.out⟩
end
section
open Go.RowKit Go.Proofs
def RetBec (st : Ps → Int → Bool × Ps) (P M B M2 B2 : Nat) (p : Ps) (zs : List Int) (w : World) (e : Ending) (w' : World) : Prop := e = .returned (.int .i64 ((becL st p.a (0, p) zs).1 : Int)) ∧ PlAt w' P M B M2 B2 (becL st p.a (0, p) zs).2 ∧ Fr (Tw B B2) w w'
theorem become_any (st : Ps → Int → Bool × Ps) (hst : Step14 st) (g : Nat) (eg : ∀ args w, (callFunc g args).run Tryz.prog w = .ok (.enter g args) w) (k1 k2 : Array Value) (P M B M2 B2 : Nat) (p : Ps) (A : Option Addr) (n c : Nat) (zs : List Int) (w : World)
  (h : PlAt w P M B M2 B2 p) (hs : Sl w 1 A n c (icells zs)) (hl : zs.length = n) (hz : ∀ z ∈ zs, z < 9223372036854775808) (hA : ∀ b o, 0 < n → A = some ⟨b, o, none⟩ → ¬ Tw B B2 b)
  (hstep : ∀ W q i, Fr (Tw B B2) w W → PlAt W P M B M2 B2 q → Calls Tryz.prog g (k1 ++ #[.int .i64 i] ++ k2) W (RetS14 st P M B M2 B2 q i W)) :
  Calls Tryz.prog 52 #[.pointer (some ⟨P, 0, none⟩), .slice A n c, .func (.func g) k1 k2] w (RetBec st P M B M2 B2 p zs w) := by
 have hmd := pmade_yes P M w h.c3
 have hlim := hs.lim
 unfold maxLen at hlim
 have H := qH h
 have HS := qH hs
 have HL := qH hl
 have HZ := qH hz
 have HA := qH hA
 have HF := qH hstep
 clear h hs hl hz hA hstep
 go_enter Tryz.func52, Tryz.ntmps52
 go_wp2_with fail
 refine hmd.mono ?_; clear hmd; rintro e w1 ⟨rfl, hw1⟩
 obtain rfl : w = w1 := hw1.symm
 go_wp2_with fail
 go_loopw [7, 15] (fun x y wr => ∃ (k j : Nat) (q : Ps), x = .int .i64 (k : Int) ∧ y = .int .i64 (j : Int) ∧ k ≤ j ∧ j ≤ n ∧ q.a = p.a ∧ PlAt wr P M B M2 B2 q ∧ Fr (Tw B B2) w wr ∧ becL st p.a (0, p) zs = becL st p.a (k, q) (zs.drop j)) (fun _ y _ => n - (intOf y).toNat)
 case atStart => exact ⟨0, 0, p, rfl, rfl, by omega, by omega, rfl, H.out, Fr.refl _ _, rfl⟩
 case round =>
  obtain ⟨k, j, q, rfl, rfl, hkj, hj, hqa, hp, hf, he⟩ := hrel
  have Hp := qH hp
  have Hf := qH hf
  have He := qH he
  have Hqa := qH hqa
  by_cases hlt : j < n
  ·have hji : (j : Int) < (n : Int) := by omega
   have hjl : j < zs.length := by rw [HL.out]; exact hlt
   obtain ⟨b, o, rfl, hc⟩ := (HS.out.fr hf (fun b o h0 e => HA.out b o h0 e)).at_ hlt
   have hc1 := hc j _ (icells_at hjl)
   have hzl := HZ.out (zs.getD j 0) (by rw [List.getD_eq_getElem?_getD, List.getElem?_eq_getElem hjl]; exact List.getElem_mem _)
   have hdrop : zs.drop j = zs.getD j 0 :: zs.drop (j + 1) := by
    rw [List.drop_eq_getElem_cons hjl]
    simp [hjl]
   have he2 := he
   rw [hdrop, becL] at he2
   obtain ⟨z, hz⟩ : ∃ z, z = zs.getD j 0 := ⟨_, rfl⟩
   rw [← hz] at hc1 hzl he2
   have hca := hp.c2
   rw [hqa] at hca
   have hak := hp.ok.a2
   rw [hqa] at hak
   have hcall := HF.out wr q (z - (p.a : Int)) hf hp
   have Ha := qH (show (st q (z - (p.a : Int))).2.a = p.a from (hst.a _ _).trans hqa)
   have Hng := qH (hst.neg q (z - (p.a : Int)))
   obtain ⟨a0, ha0⟩ : ∃ a, a = p.a := ⟨_, rfl⟩
   rw [← ha0] at hca hak hcall
   have Ha0 := qH ha0
   rw [← ha0] at he2
   have He2 := qH he2
   clear hc hz hdrop he he2 hp hf hqa ha0
   by_cases hza : z ≥ (a0 : Int)
   ·have hwn : IntKind.i64.wrap (z - (a0 : Int)) = z - (a0 : Int) := by rw [IntKind.wrap_i64]; omega
    obtain ⟨y, hy⟩ : ∃ y, y = (st q (z - (a0 : Int))).1 := ⟨_, rfl⟩
    unfold RetS14 at hcall
    rw [← hy] at hcall
    have Hy := qH hy
    have Hwn := qH hwn
    clear hy hwn
    cases y
    ·go_wp2_with fail
     refine hcall.mono ?_; clear hcall; rintro e w2 ⟨rfl, hp2, hf2⟩
     have Hp2 := qH hp2
     have Hf2 := qH hf2
     clear hp2 hf2
     go_wp2_with fail
     go_roundw
     case rel => exact ⟨k, j + 1, (st q (z - (a0 : Int))).2, rfl, by go_num, by omega, by omega, by rw [Ha0.out]; exact Ha.out, Hp2.out, Hf.out.trans Hf2.out, by rw [← Ha0.out, He2.out, ← Hy.out]; simp⟩
     case measure => simp [intOf]; omega
    ·go_wp2_with fail
     refine hcall.mono ?_; clear hcall; rintro e w2 ⟨rfl, hp2, hf2⟩
     have Hp2 := qH hp2
     have Hf2 := qH hf2
     clear hp2 hf2
     go_wp2_with fail
     go_roundw
     case rel => exact ⟨k + 1, j + 1, (st q (z - (a0 : Int))).2, by go_num, by go_num, by omega, by omega, by rw [Ha0.out]; exact Ha.out, Hp2.out, Hf.out.trans Hf2.out, by rw [← Ha0.out, He2.out, ← Hy.out]; simp⟩
     case measure => simp [intOf]; omega
   ·clear hcall
    have hn := Hng.out (by rw [← Ha0.out]; omega)
    rw [← Ha0.out] at hn
    have Hn := qH hn
    clear hn
    go_wp2_with fail
    go_roundw
    case rel => exact ⟨k, j + 1, q, rfl, by go_num, by omega, by omega, Hqa.out, Hp.out, Hf.out, by rw [← Ha0.out, He2.out, Hn.out]; simp⟩
    case measure => simp [intOf]; omega
  ·obtain rfl : j = n := by omega
   have he2 := he
   rw [List.drop_of_length_le (by rw [HL.out]; exact Nat.le_refl _), becL] at he2
   have He2 := qH he2
   clear he he2 hp hf hqa
   go_wp2_with fail
   go_ret
   exact ⟨by rw [He2.out]; rfl, by rw [He2.out]; exact Hp.out, Hf.out⟩
end
section
open Go.RowKit Go.Proofs
def own14 (P M B M2 B2 : Nat) : Nat → Prop := fun b => b = P ∨ b = M ∨ b = B ∨ b = M2 ∨ b = B2
def Pl (w : World) (S : Nat → Prop) (P : Nat) (p : Ps) : Prop := ∃ M B M2 B2, S = own14 P M B M2 B2 ∧ PlAt w P M B M2 B2 p
section
variable {w w' : World} {S T : Nat → Prop} {P n : Nat} {p : Ps}
theorem Pl.fr (h : Pl w S P p) (hf : Fr T w w') (hT : ∀ b, S b → ¬ T b) : Pl w' S P p := by
 obtain ⟨M, B, M2, B2, rfl, hp⟩ := h
 exact ⟨M, B, M2, B2, rfl, hp.fr hf (hT _ (.inl rfl)) (hT _ (.inr (.inl rfl))) (hT _ (.inr (.inr (.inl rfl)))) (hT _ (.inr (.inr (.inr (.inl rfl))))) (hT _ (.inr (.inr (.inr (.inr rfl)))))⟩
theorem Pl.later (h : Pl w S P p) (hb : Below w.heap.size w w') : Pl w' S P p := h.fr (Fr.of_below hb : Fr (fun _ => False) w w') (fun _ _ h => h)
theorem Pl.lt (h : Pl w S P p) : ∀ b, S b → b < w.heap.size := by
 obtain ⟨M, B, M2, B2, rfl, hp⟩ := h
 rintro b (rfl | rfl | rfl | rfl | rfl)
 ·exact hp.ltP
 ·exact hp.busy.ltM
 ·exact hp.busy.ltB
 ·exact hp.limbo.ltM
 ·exact hp.limbo.ltB
theorem Pl.ok (h : Pl w S P p) : p.Ok := by
 obtain ⟨M, B, M2, B2, rfl, hp⟩ := h
 exact hp.ok
theorem Fr.tw {P M B M2 B2 : Nat} (h : Fr (Tw B B2) w w') : Fr (own14 P M B M2 B2) w w' := h.mono fun b hb => by
 rcases hb with rfl | rfl
 ·exact .inr (.inr (.inl rfl))
 ·exact .inr (.inr (.inr (.inr rfl)))
end
def No14 (w : World) (v : Value) : Prop := v = .pointer none ∨ ∃ P, v = .pointer (some ⟨P, 0, none⟩) ∧ w.cell? ⟨P, 3, none⟩ = some (.pointer none)
theorem No14.made {w : World} {v : Value} (h : No14 w v) : Calls Tryz.prog 74 #[v] w fun e w' => e = .returned (.bool false) ∧ w' = w := by
 rcases h with rfl | ⟨P, rfl, h⟩
 ·exact pmade_nil w
 ·exact pmade_zero P w h
/-! New. -/
def RetPl (p : Ps) (w : World) (e : Ending) (w' : World) : Prop := ∃ S P, e = .returned (.pointer (some ⟨P, 0, none⟩)) ∧ Pl w' S P p ∧ Below w.heap.size w w' ∧ ∀ b, S b → w.heap.size ≤ b
theorem newP_ok {a n : Nat} (h1 : 1 ≤ n) (h2 : n ≤ 400) (h3 : a + n ≤ 600) : (newP a n).Ok := ⟨h1, h2, h3, Nat.zero_le _, by show 0 < _; decide, fun _ _ h => by cases h⟩
theorem pnew_yes (a n : Nat) (h1 : 1 ≤ n) (h2 : n ≤ 400) (h3 : a + n ≤ 600) (w : World) :
  Calls Tryz.prog 41 #[.int .i64 (a : Int), .int .i64 (n : Int)] w (RetPl (newP a n) w) := by
 have c1 : ¬ (a : Int) < 0 := by omega
 have c2 : ¬ (n : Int) < 1 := by omega
 have c3 : ¬ (400 : Int) < (n : Int) := by omega
 have c4 : ¬ (600 : Int) - (n : Int) < (a : Int) := by omega
 have hn1 := mpnew_yes n (by omega) w
 have HO := qH (newP_ok h1 h2 h3)
 clear h1
 go_enter Tryz.func41, Tryz.ntmps41
 go_wp2_with fail
 refine hn1.mono ?_; clear hn1; rintro e w1 ⟨M, B, rfl, hm, hb, hM, hB⟩
 have Hm := qH hm
 have Hb := qH hb
 have HM := qH hM
 have HB := qH hB
 have HL := qH (And.intro hm.ltM hm.ltB)
 have hn2 := mpnew_yes n (by omega) w1
 clear hm hb hM hB
 go_wp2_with fail
 refine hn2.mono ?_; clear hn2; rintro e w2 ⟨M2, B2, rfl, hm, hb, hM, hB⟩
 have Hm1 := qH (Hm.out.later hb)
 have Hm2 := qH hm
 have Hb2 := qH hb
 have HM2 := qH hM
 have HB2 := qH hB
 clear hm hb hM hB Hm
 go_wp2_with fail
 go_ret
 have hx := heap_alloc_new w2 (.cells #[.int .u64 0, .int .i64 0, .int .i64 (a : Int), .pointer (some ⟨M, 0, none⟩), .pointer (some ⟨M2, 0, none⟩)] 106)
 have hbx : Below w2.heap.size w2 (w2.alloc (.cells #[.int .u64 0, .int .i64 0, .int .i64 (a : Int), .pointer (some ⟨M, 0, none⟩), .pointer (some ⟨M2, 0, none⟩)] 106)) := (Below.refl _ _).alloc (Nat.le_refl _) _
 have s1 := Hb.out.size
 have s2 := Hb2.out.size
 have l1 := Hm1.out.ltM
 have l2 := Hm1.out.ltB
 have l3 := Hm2.out.ltM
 have l4 := Hm2.out.ltB
 have k1 := HM.out
 have k2 := HB.out
 have k3 := HM2.out
 have k4 := HB2.out
 have i1 := HL.out
 refine ⟨own14 w2.heap.size M B M2 B2, w2.heap.size, rfl, ⟨M, B, M2, B2, rfl, hx, Hm1.out.later hbx, Hm2.out.later hbx, HO.out, ?_, ?_, ?_, ?_, ?_, ?_, ?_⟩, Hb.out.trans ((Hb2.out.trans (hbx.mono s2)).mono s1), ?_⟩
 all_goals first | omega | (rintro b (rfl | rfl | rfl | rfl | rfl) <;> omega)
/-! Take. -/
theorem leastD_mem {n : Nat} {f : Nat → Bool} {y : Int} {x : Nat} (h : x ∈ leastD n f y) : x < n ∧ f x = false := by
 unfold leastD at h
 split at h
 ·cases h
 ·unfold leastL at h
  split at h
  ·have := plc_mem.1 (List.mem_of_mem_take h)
   exact ⟨this.2.1, this.2.2⟩
  ·cases h
def intsOf (l : List Nat) : List Int := l.map fun (n : Nat) => (n : Int)
theorem intsOf_length (l : List Nat) : (intsOf l).length = l.length := List.length_map _
def RetTake (S : Nat → Prop) (P : Nat) (p : Ps) (n : Int) (w : World) (e : Ending) (w' : World) : Prop :=
 (((leastD p.n p.f n).length : Int) < n ∧ e = .returned (.tuple #[.slice none 0 0, .int .i64 140]) ∧ Below w.heap.size w w') ∨
 (((leastD p.n p.f n).length : Int) = n ∧ ∃ b, e = .returned (.tuple #[.slice (some ⟨b, 0, none⟩) (leastD p.n p.f n).length (leastD p.n p.f n).length, .int .i64 0]) ∧ Rw w' b 3 1 (leastD p.n p.f n).length (leastD p.n p.f n).length (ncells (placesL p (leastD p.n p.f n))) ∧ w.heap.size ≤ b ∧ Pl w' S P (takeAll p (intsOf (placesL p (leastD p.n p.f n)))) ∧ Fr S w w')
theorem leastD_len {n : Nat} {f : Nat → Bool} {y : Int} (h : 0 ≤ y) : ((leastD n f y).length : Int) < y ∨ ((leastD n f y).length : Int) = y := by
 unfold leastD
 split
 ·simp; omega
 ·unfold leastL
  split
  ·right
   rw [List.length_take]
   omega
  ·left
   simp
   omega
theorem take_any (S : Nat → Prop) (P : Nat) (p : Ps) (n : Int) (hn : 0 ≤ n) (hn2 : n < 9223372036854775808) (w : World) (h : Pl w S P p) (hN : Tz w) :
  Calls Tryz.prog 45 #[.pointer (some ⟨P, 0, none⟩), .int .i64 n] w (RetTake S P p n w) := by
 obtain ⟨M, B, M2, B2, rfl, hp⟩ := h
 have hm := pmade_yes P M w hp.c3
 have hk := hp.ok
 have hle := least_z _ p.n p.f n hn2 w hp.busy.mp hN
 have hlt := leastD_len (n := p.n) (f := p.f) hn
 have hmem := fun x (hx : x ∈ leastD p.n p.f n) => leastD_mem hx
 unfold RetTake
 obtain ⟨l, hl⟩ : ∃ l, l = leastD p.n p.f n := ⟨_, rfl⟩
 rw [← hl] at hle hlt hmem ⊢
 have hlen : l.length ≤ 400 := by
  rw [hl]
  unfold leastD
  split
  ·simp
  ·unfold leastL
   split
   ·rw [List.length_take]
    have := plc_len_le (n := p.n) (a := 0) (f := p.f) (t := false)
    have := hk.n2
    omega
   ·simp
 have hc3 := hp.c3
 have Hp := qH hp
 have Hm := qH hmem
 clear hp hmem hl hk
 have hx : ¬ n < 0 := by omega
 obtain ⟨q, hq⟩ : ∃ q, q = l.length := ⟨_, rfl⟩
 have Hq := qH hq
 unfold RetNums at hle
 rw [← hq] at hle hlt hlen ⊢
 clear hq
 go_enter Tryz.func45, Tryz.ntmps45
 go_wp2_with fail
 refine hm.mono ?_; clear hm; rintro e w1 ⟨rfl, hw1⟩
 obtain rfl : w = w1 := hw1.symm
 go_wp2_with fail
 refine hle.mono ?_; clear hle; rintro e w1 ⟨A, c, rfl, ho, hb, -⟩
 have hp1 := Hp.out.later hb
 have hpl := places_any P p.a q c A l w1 ho.sl Hq.out.symm hp1.c2 (by omega) (by have := Hp.out.ok.a2; omega) (fun x hx => by have := Hm.out x hx; have := Hp.out.ok.n2; omega)
 unfold RetPlaces at hpl
 rw [← Hq.out] at hpl
 have Hp1 := qH hp1
 have Hb := qH hb
 clear ho hb hp1
 go_wp2_with fail
 refine hpl.mono ?_; clear hpl; rintro e w2 ⟨b, rfl, hr, hb2, hbb⟩
 have Hp2 := qH (Hp1.out.later hb2)
 have Hr := qH hr
 have Hb2 := qH (Hb.out.trans (hb2.mono Hb.out.size))
 have Hbb := qH (show w.heap.size ≤ b from by have := Hb.out.size; omega)
 clear hr hb2 hbb
 rcases hlt with hlt | hlt
 ·go_wp2_with fail
  go_ret2
  exact .inl ⟨hlt, rfl, Hb2.out⟩
 ·have hnl : ¬ (q : Int) < n := by omega
  have hbe := become_any takeS takeS_step 93 (enters_of Tryz.func93 (by kernel_rfl) rfl) #[.pointer (some ⟨P, 0, none⟩)] #[] P M B M2 B2 p (some ⟨b, 0, none⟩) q q (intsOf (placesL p l)) w2 Hp2.out (by rw [intsOf, ← ncells_icells]; exact Hr.out.sl) (by rw [intsOf_length, placesL, List.length_map, Hq.out]) (fun z hz => by
    obtain ⟨x, hx, rfl⟩ := List.mem_map.1 hz
    obtain ⟨y, hy, rfl⟩ := List.mem_map.1 hx
    have := Hm.out y hy
    have := Hp.out.ok.a2
    omega) (fun b' o' _ e => by
    injection e with e
    injection e with e _
    have := Hp.out.busy.ltB
    have := Hp.out.limbo.ltB
    have := Hbb.out
    rintro (h | h) <;> omega) (fun W q i hf hq => take1_any i W hq)
  have Hlt := qH hlt
  clear hlt
  go_wp2_with fail
  refine hbe.mono ?_; clear hbe; rintro e w3 ⟨rfl, hp3, hf3⟩
  rw [bec_take] at hp3
  have Hp3 := qH hp3
  have Hf3 := qH hf3
  have Hr3 := qH (Hr.out.fr hf3 (by
    have := Hp.out.busy.ltB
    have := Hp.out.limbo.ltB
    have := Hbb.out
    rintro (h | h) <;> omega))
  clear hp3 hf3
  go_wp2_with fail
  go_ret2
  exact .inr ⟨Hlt.out, b, rfl, Hr3.out, Hbb.out, ⟨M, B, M2, B2, rfl, Hp3.out⟩, (Fr.of_below Hb2.out).trans Hf3.out.tw⟩
end
section
open Go.RowKit Go.Proofs
/-! Settle. -/
/-! Free, Limbo, Taken. -/
theorem free_any (S : Nat → Prop) (P : Nat) (p : Ps) (w : World) (h : Pl w S P p) (hN : Tz w) :
  Calls Tryz.prog 29 #[.pointer (some ⟨P, 0, none⟩)] w fun e w' => e = .returned (.int .i64 ((p.n : Int) - (cntL p.n p.f : Int))) ∧ Below w.heap.size w w' := by
 obtain ⟨M, B, M2, B2, -, hp⟩ := h
 have hm := pmade_yes P M w hp.c3
 have HB := qH hp.busy
 have H3 := qH hp.c3
 have HN := qH hN
 have hc := plc_len_le (n := p.n) (a := 0) (f := p.f) (t := true)
 have h4 := hp.ok.n2
 have hwn : IntKind.i64.wrap ((p.n : Int) - (cntL p.n p.f : Int)) = (p.n : Int) - (cntL p.n p.f : Int) := by rw [IntKind.wrap_i64]; unfold cntL; omega
 obtain ⟨k, hk⟩ : ∃ k, k = cntL p.n p.f := ⟨_, rfl⟩
 rw [← hk] at hwn ⊢
 have HK := qH hk
 have HW := qH hwn
 clear hp hN hk hwn hc h4
 go_enter Tryz.func29, Tryz.ntmps29
 go_wp2_with fail
 refine hm.mono ?_; clear hm; rintro e w1 ⟨rfl, hw1⟩
 obtain rfl : w = w1 := hw1.symm
 go_wp2_with fail
 refine wp_region_held_drew (S := fun w' => Fr (fun _ => False) w.drew w') (by kernel_rfl) (Fr.refl _ _) (fun hHeld => ?_)
 clear hHeld
 refine tA 0 (some 6) rfl (Fr.refl _ _) ?_
 refine tA 1 (some 7) rfl (Fr.refl _ _) ?_
 refine tA 2 (some 8) rfl (Fr.refl _ _) ?_
 refine tL 3 (some 9) (v := ?vf3) rfl ?yf3 (Fr.refl _ _) ?rf3
 case yf3 =>
  intro wq hSw
  (try dsimp only at hSw)
  have hq := hSw.cell_some H3.out (fun h => h)
  go_simp <;> with_reducible rfl
 try simp only [Act.put,sA,sB,sC]
 refine tA 5 (some 11) rfl (Fr.refl _ _) ?_
 refine tA 6 (some 12) rfl (Fr.refl _ _) ?_
 refine tA 7 (some 13) rfl (Fr.refl _ _) ?_
 refine tL 8 (some 14) (v := ?vf8) rfl ?yf8 (Fr.refl _ _) ?rf8
 case yf8 =>
  intro wq hSw
  (try dsimp only at hSw)
  have hq := hSw.cell_some H3.out (fun h => h)
  go_simp <;> with_reducible rfl
 try simp only [Act.put,sA,sB,sC]
 refine rW 4 (some 10) rfl fun K hK => ?_
 go_simp
 refine (mlen_any (.pointer (some ⟨M, 0, none⟩)) p.n p.f w.drew (HB.out.mp.keep (Below.drew (Below.refl _ _)))).mono ?_; rintro e w2 ⟨rfl, hw2⟩
 obtain rfl : w.drew = w2 := hw2.symm
 have hfr : Fr (fun _ => False) w.drew w.drew := Fr.refl _ _
 go_wp2_with fail
 refine hK.out _ _ hfr (fun hHeld => ?_)
 clear hK K hHeld
 try simp only [Act.put,sA,sB,sC]
 refine wpAnyH_re (S' := fun w' => Fr (fun _ => False) w.drew w') (fun w' h => hfr.trans h) ?_
 clear hfr
 refine rW 9 (some 15) rfl fun K hK => ?_
 go_simp
 have hh := count_any (.pointer (some ⟨M, 0, none⟩)) p.n p.f w.drew (HB.out.mp.keep (Below.drew (Below.refl _ _))) (HN.out.keep (Below.drew (Below.refl _ _)))
 rw [← HK.out] at hh
 refine hh.mono ?_; clear hh; rintro e w2 ⟨rfl, hw2⟩
 obtain rfl : w.drew = w2 := hw2.symm
 have hfr : Fr (fun _ => False) w.drew w.drew := Fr.refl _ _
 have BF := qH (Below.drew (Below.refl w.heap.size w))
 go_wp2_with fail
 refine hK.out _ _ hfr (fun hHeld => ?_)
 clear hK K hHeld
 try simp only [Act.put,sA,sB,sC]
 refine wpAnyH_re (S' := fun w' => Fr (fun _ => False) w.drew w') (fun w' h => hfr.trans h) ?_
 clear hfr
 refine tL 10 (some 16) (v := ?vf10) rfl ?yf10 (Fr.refl _ _) ?rf10
 case yf10 =>
  intro wq hSw
  (try dsimp only at hSw)
  have hw := HW.out
  go_simp <;> with_reducible rfl
 try simp only [Act.put,sA,sB,sC]
 refine tA 11 (some 2) rfl (Fr.refl _ _) ?_
 refine tD ?_
 go_wp2_with fail
 go_ret
 exact ⟨rfl, BF.out⟩
end
section
open Go.RowKit Go.Proofs
theorem gen14_any (a : Nat) (ha : a < 1099511627776) (w : World) :
  Calls Tryz.prog 128 #[.int .u64 (a : Int), .int .i64 0] w fun e w' => e = .returned (.tuple #[.int .u64 ((a * 1048576 : Nat) : Int), .int .i64 0]) ∧ w' = w := by
 have d1 : ¬ (a : Int) ≥ 1099511627776 := by omega
 go_enter Tryz.func128, Tryz.ntmps128
 go_wp2_with fail
 go_ret2
 exact ⟨ret2_eq (by omega) rfl, rfl⟩
theorem PlAt.told {w : World} {P M B M2 B2 : Nat} {p : Ps} (h : PlAt w P M B M2 B2 p) (t : Nat) (ht : t ≤ 1048576) : PlAt (w.setCell ⟨P, 1, none⟩ (.int .i64 (t : Int))) P M B M2 B2 { p with t := t } := by
 have hf : Fr (fun b => b = P) w (w.setCell ⟨P, 1, none⟩ (.int .i64 (t : Int))) := (Fr.refl (fun b => b = P) w).setCell (p := ⟨P, 1, none⟩) (.inr rfl) _
 refine ⟨?_, h.busy.fr hf (fun e => h.pm e.symm) (fun e => h.pb e.symm), h.limbo.fr hf (fun e => h.pm2 e.symm) (fun e => h.pb2 e.symm), ⟨h.ok.n1, h.ok.n2, h.ok.a2, ht, h.ok.e2, h.ok.sub⟩, h.pb, h.pb2, h.mb2, h.bm2, h.bb2, h.pm, h.pm2⟩
 exact heap_setCell_same w P 1 _ _ _ h.row
def Ref14 (w : World) (n : Nat) (e : Ending) (w' : World) : Prop := e = .returned (.tuple #[.int .u64 0, .int .i64 (n : Int)]) ∧ w' = w
def RetGens (S : Nat → Prop) (R : World → Ps → Prop) (p : Ps) (n : Int) (w : World) (e : Ending) (w' : World) : Prop := e = .returned (.tuple #[.int .u64 ((p.e * 1048576 + p.t : Nat) : Int), .int .i64 0]) ∧ R w' { p with t := p.t + n.toNat } ∧ Fr S w w'
theorem tell_neg (P : Nat) (n : Int) (d1 : n < 0) (w : World) :
  Calls Tryz.prog 89 #[.pointer (some ⟨P, 0, none⟩), .int .i64 n] w (Ref14 w 2) := by
 go_enter Tryz.func89, Tryz.ntmps89
 go_wp2_with fail
 go_ret2
 exact ⟨rfl, rfl⟩
theorem tell_few (P M B M2 B2 : Nat) (p : Ps) (n : Int) (d1 : ¬ n < 0) (d2 : (1048576 : Int) - (p.t : Int) < n) (w : World) (h : PlAt w P M B M2 B2 p) :
  Calls Tryz.prog 89 #[.pointer (some ⟨P, 0, none⟩), .int .i64 n] w (Ref14 w 140) := by
 have ht := h.ok.t2
 have hc1 := h.c1
 clear h
 go_enter Tryz.func89, Tryz.ntmps89
 go_wp2_with fail
 go_ret2
 exact ⟨rfl, rfl⟩
theorem tell_yes (P M B M2 B2 : Nat) (p : Ps) (n : Int) (d1 : ¬ n < 0) (d2 : ¬ (1048576 : Int) - (p.t : Int) < n) (w : World) (h : PlAt w P M B M2 B2 p) :
  Calls Tryz.prog 89 #[.pointer (some ⟨P, 0, none⟩), .int .i64 n] w (RetGens (fun b => b = P) (fun w' q => PlAt w' P M B M2 B2 q) p n w) := by
 have ht := h.ok.t2
 have he := h.ok.e2
 have hc0 := h.c0
 have hc1 := h.c1
 have hfz := h.free 1
 have hg := gen14_any p.e he w
 have H := qH h
 clear h
 have HT := qH (H.out.told (p.t + n.toNat) (by omega))
 have HW := qH (show IntKind.i64.wrap ((p.t : Int) + n) = ((p.t + n.toNat : Nat) : Int) from by rw [IntKind.wrap_i64]; omega)
 have HF := qH (show Fr (fun b => b = P) w (w.setCell ⟨P, 1, none⟩ (.int .i64 ((p.t + n.toNat : Nat) : Int))) from (Fr.refl (fun b => b = P) w).setCell (p := ⟨P, 1, none⟩) (.inr rfl) _)
 have HG := qH (show ((p.t + n.toNat : Nat) : Int) = (p.t : Int) + n from by omega)
 rw [HG.out] at HT HF
 unfold RetGens
 go_enter Tryz.func89, Tryz.ntmps89
 go_wp2_with fail
 refine hg.mono ?_; clear hg; rintro e w1 ⟨rfl, hw1⟩
 obtain rfl : w = w1 := hw1.symm
 go_wp2_with fail
 go_ret2
 exact ⟨ret2_eq (by omega) rfl, HT.out, HF.out⟩
theorem gens_no (v : Value) (n : Int) (w : World) (h : No14 w v) :
  Calls Tryz.prog 43 #[v, .int .i64 n] w fun e w' => e = .returned (.tuple #[.int .u64 0, .int .i64 1]) ∧ w' = w := by
 have hm := h.made
 clear h
 go_enter Tryz.func43, Tryz.ntmps43
 go_wp2_with fail
 refine hm.mono ?_; clear hm; rintro e w1 ⟨rfl, hw1⟩
 obtain rfl : w = w1 := hw1.symm
 go_wp2_with fail
 go_ret2
 exact ⟨rfl, rfl⟩
def RetGens14 (S : Nat → Prop) (P : Nat) (p : Ps) (n : Int) (w : World) (e : Ending) (w' : World) : Prop :=
 (n < 0 ∧ Ref14 w 2 e w') ∨ (¬ n < 0 ∧ (1048576 : Int) - (p.t : Int) < n ∧ Ref14 w 140 e w') ∨ (0 ≤ n ∧ n ≤ (1048576 : Int) - (p.t : Int) ∧ RetGens S (fun w' q => Pl w' S P q) p n w e w')
theorem gens_any (S : Nat → Prop) (P : Nat) (p : Ps) (n : Int) (w : World) (h : Pl w S P p) :
  Calls Tryz.prog 43 #[.pointer (some ⟨P, 0, none⟩), .int .i64 n] w (RetGens14 S P p n w) := by
 obtain ⟨M, B, M2, B2, rfl, hp⟩ := h
 have hm := pmade_yes P M w hp.c3
 by_cases d1 : n < 0
 ·have ht := tell_neg P n d1 w
  clear hp
  go_enter Tryz.func43, Tryz.ntmps43
  go_wp2_with fail
  refine hm.mono ?_; clear hm; rintro e w1 ⟨rfl, hw1⟩
  obtain rfl : w = w1 := hw1.symm
  go_wp2_with fail
  refine ht.mono ?_; clear ht; rintro e w1 ⟨rfl, hw1⟩
  obtain rfl : w = w1 := hw1.symm
  go_wp2_with fail
  go_ret2
  exact .inl ⟨d1, rfl, rfl⟩
 by_cases d2 : (1048576 : Int) - (p.t : Int) < n
 ·have ht := tell_few P M B M2 B2 p n d1 d2 w hp
  have D2 := qH d2
  clear hp d2
  go_enter Tryz.func43, Tryz.ntmps43
  go_wp2_with fail
  refine hm.mono ?_; clear hm; rintro e w1 ⟨rfl, hw1⟩
  obtain rfl : w = w1 := hw1.symm
  go_wp2_with fail
  refine ht.mono ?_; clear ht; rintro e w1 ⟨rfl, hw1⟩
  obtain rfl : w = w1 := hw1.symm
  go_wp2_with fail
  go_ret2
  exact .inr (.inl ⟨by omega, D2.out, rfl, rfl⟩)
 ·have ht := tell_yes P M B M2 B2 p n d1 d2 w hp
  have D2 := qH d2
  have D1 := qH d1
  unfold RetGens at ht
  obtain ⟨z, hz⟩ : ∃ z, z = ((p.e * 1048576 + p.t : Nat) : Int) := ⟨_, rfl⟩
  rw [← hz] at ht
  have HZ := qH hz
  clear hp d2 d1 hz
  go_enter Tryz.func43, Tryz.ntmps43
  go_wp2_with fail
  refine hm.mono ?_; clear hm; rintro e w1 ⟨rfl, hw1⟩
  obtain rfl : w = w1 := hw1.symm
  go_wp2_with fail
  refine ht.mono ?_; clear ht; rintro e w1 ⟨rfl, hp, hf⟩
  have HP := qH hp
  have HF := qH hf
  clear hp hf
  go_wp2_with fail
  go_ret2
  exact .inr (.inr ⟨by have := D1.out; omega, by have := D2.out; omega, by rw [← HZ.out]; rfl, ⟨M, B, M2, B2, rfl, HP.out⟩, HF.out.mono fun b hb => .inl hb⟩)
end
end Go.Proofs.YtokbhgbajdomnaaGreatDoor

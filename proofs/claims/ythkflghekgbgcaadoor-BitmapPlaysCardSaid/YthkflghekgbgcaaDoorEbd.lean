/-
  Contracts of package bitmap's search over numbers, whatever function is handed in, and of Count and First. Condition: the table reads as the row lists it ('Tz').
-/
import Derived.Test.YthkflghekgbgcaaDoorEbc
import Derived.Shelf.Abstract
namespace Go.Proofs.YthkflghekgbgcaaDoor
open Go.RowKit Go.Proofs
set_option linter.unusedVariables false

set_option maxRecDepth 20000 in
set_option maxHeartbeats 1600000 in
theorem searchi_any (g : Nat) (eg : ∀ args w, (callFunc g args).run Tryd.prog w = .ok (.enter g args) w) (F : Int → Nat → Int × Bool) (x0 z : Int) (v : Value) (n : Nat) (f : Nat → Bool) (t : Bool) (w : World) (h : Mp w v n f) (hN : Tz w)
    (hz2 : z < 9223372036854775808) (h0 : -1 ≤ x0) (h1 : x0 ≤ (z.toNat : Int))
    (hF : ∀ (x : Int) (p : Nat), -1 ≤ x → x ≤ (p : Int) → p < 65536 → Calls Tryd.prog g #[.int .i64 x, .int .i64 (p : Int)] w fun e w' => e = .returned (.tuple #[.int .i64 (F x p).1, .bool (F x p).2]) ∧ w' = w)
    (hb : ∀ (x : Int) (p : Nat), -1 ≤ x → x ≤ (p : Int) → -1 ≤ (F x p).1 ∧ (F x p).1 ≤ (p : Int) + 1) :
    Calls Tryd.prog 28 #[v, .int .i64 z, .bool t, .int .i64 x0, .func (.func g) #[] #[]] w fun e w' => e = .returned (.int .i64 (goesP F x0 (plc n z.toNat f t))) ∧ w' = w := by
  have htop := h.top
  have hnx := fun a ha => next_any v n f a t w h hN ha
  have hwi := fun i => mwithin_any v n f i w h
  obtain ⟨a0, ha0⟩ : ∃ a0, a0 = z.toNat := ⟨_, rfl⟩
  have hmx : (z < 0 ∧ a0 = 0) ∨ (¬ z < 0 ∧ z = (a0 : Int)) := by omega
  have hal : a0 < 9223372036854775808 := by omega
  rw [← ha0] at h1 ⊢
  have Hf := Lib.hid hF; clear hF
  have Hb := Lib.hid hb; clear hb
  have Hn := Lib.hid hnx; clear hnx
  have Hi := Lib.hid hwi; clear hwi
  have H := Lib.hid h; clear h
  clear ha0 hN
  rcases hmx with ⟨hz, rfl⟩ | ⟨hz, rfl⟩
  all_goals
    have hzm : ¬ (0 : Int) < 0 := by omega
    go_enter Tryd.func28, Tryd.ntmps28
    go_wp2_with fail
    first | refine (Hn.out a0 hal).mono ?_ | refine (Hn.out 0 (by decide)).mono ?_
    rintro e w1 ⟨r0, rfl, hq0, hw1⟩
    subst hw1
    have Q0 := Lib.hid hq0; clear hq0
    go_wp2_with fail
    go_loopw [3, 11, 12, 13] (fun x i _ _ wr => ∃ (a r : Nat) (y : Int), x = .int .i64 y ∧ i = .int .i64 (r : Int) ∧ -1 ≤ y ∧ y ≤ (a : Int) ∧ a < 9223372036854775808 ∧ Nq n f a t r ∧ wr = w1 ∧ goesP F x0 (plc n _ f t) = goesP F y (plc n a f t)) (fun _ i _ _ _ => n - (intOf i).toNat)
    case atStart => exact ⟨_, r0, x0, rfl, rfl, h0, h1, by omega, Q0.out, rfl, rfl⟩
    case round =>
      obtain ⟨a, r, y, rfl, rfl, hy0, hy1, hal2, hq, rfl, he⟩ := hrel
      have Q := Lib.hid hq
      have He := Lib.hid he
      have hrl : (r : Int) < 9223372036854775808 := by have := hq.top; omega
      have hi := Hi.out (r : Int)
      clear he hq
      by_cases hlt : r < n
      · rw [show inB n (r : Int) = true by simp [inB]; omega] at hi
        have hyr : y ≤ (r : Int) := by have := Q.out.nx.le; omega
        have hcall := Hf.out y r hy0 hyr (by omega)
        have hnext := Hn.out (r + 1) (by omega)
        obtain ⟨hb0, hb1⟩ := Hb.out y r hy0 hyr
        have hcons := Q.out.nx.cons hlt
        have He2 := Lib.hid (He.out.trans (by rw [hcons, goesP]))
        obtain ⟨y2, hy2⟩ : ∃ y2, y2 = (F y r).1 := ⟨_, rfl⟩
        obtain ⟨b2, hb2⟩ : ∃ b2, b2 = (F y r).2 := ⟨_, rfl⟩
        rw [← hy2, ← hb2] at hcall
        rw [← hy2] at hb0 hb1
        rw [← hy2, ← hb2] at He2
        clear hy2 hb2 hcons
        have hq2 : y2 ≤ (((r + 1 : Nat)) : Int) := by omega
        clear hy1 hyr hb1
        cases b2
        · go_wp2_with fail
          refine hi.mono ?_; clear hi; rintro e w2 ⟨rfl, hw2⟩; subst hw2
          go_wp2_with fail
          refine hcall.mono ?_; clear hcall; rintro e w3 ⟨rfl, hw3⟩; subst hw3
          go_wp2_with fail
          refine hnext.mono ?_; clear hnext; rintro e w4 ⟨r4, rfl, hq4, hw4⟩; subst hw4
          have hle4 := hq4.nx.le
          have Q4 := Lib.hid hq4; clear hq4
          go_wp2_with fail
          go_roundw
          case rel => exact ⟨r + 1, r4, y2, rfl, rfl, hb0, hq2, by omega, Q4.out, trivial, He2.out⟩
          case measure => simp [intOf]; omega
        · go_wp2_with fail
          refine hi.mono ?_; clear hi; rintro e w2 ⟨rfl, hw2⟩; subst hw2
          go_wp2_with fail
          refine hcall.mono ?_; clear hcall; rintro e w3 ⟨rfl, hw3⟩; subst hw3
          go_wp2_with fail
          go_ret
          exact ⟨by rw [He2.out]; rfl, rfl⟩
      · rw [show inB n (r : Int) = false by simp [inB]; omega] at hi
        have hnil := Q.out.nx.nil (by omega)
        have He2 := Lib.hid (He.out.trans (by rw [hnil]))
        go_wp2_with fail
        refine hi.mono ?_; clear hi; rintro e w2 ⟨rfl, hw2⟩; subst hw2
        go_wp2_with fail
        go_ret
        exact ⟨by rw [He2.out]; rfl, rfl⟩

set_option maxRecDepth 20000 in
theorem count1_any (x : Int) (p : Nat) (h0 : -1 ≤ x) (h1 : x ≤ (p : Int)) (hp : p < 65536) (w : World) :
    Calls Tryd.prog 29 #[.int .i64 x, .int .i64 (p : Int)] w fun e w' => e = .returned (.tuple #[.int .i64 (x + 1), .bool false]) ∧ w' = w := by
  go_enter Tryd.func29, Tryd.ntmps29
  go_wp2_with fail
  go_ret2
  exact ⟨rfl, rfl⟩
set_option maxRecDepth 20000 in
theorem first1_any (x : Int) (p : Nat) (w : World) :
    Calls Tryd.prog 30 #[.int .i64 x, .int .i64 (p : Int)] w fun e w' => e = .returned (.tuple #[.int .i64 (p : Int), .bool true]) ∧ w' = w := by
  go_enter Tryd.func30, Tryd.ntmps30
  go_wp2_with fail
  go_ret2
  exact ⟨rfl, rfl⟩
theorem goes_countZ (l : List Nat) : ∀ c : Int, goesP (fun (c : Int) _ => (c + 1, false)) c l = c + (l.length : Int) := by
  induction l with
  | nil => intro c; simp [goesP]
  | cons p l ih => intro c; show goesP _ (c + 1) l = _; rw [ih, List.length_cons]; omega
/-- How many places are taken. -/
def cntL (n : Nat) (f : Nat → Bool) : Nat := (plc n 0 f true).length
set_option maxRecDepth 20000 in
theorem count_any (v : Value) (n : Nat) (f : Nat → Bool) (w : World) (h : Mp w v n f) (hN : Tz w) :
    Calls Tryd.prog 14 #[v] w fun e w' => e = .returned (.int .i64 (cntL n f : Int)) ∧ w' = w := by
  have hh := searchi_any 29 (enters_of Tryd.func29 (by kernel_rfl) rfl) (fun c _ => (c + 1, false)) 0 0 v n f true w h hN (by decide) (by decide) (by decide) (fun x p a b c => count1_any x p a b c w) (fun x p a b => ⟨by show -1 ≤ x + 1; omega, by show x + 1 ≤ _; omega⟩)
  rw [goes_countZ] at hh
  have e : (0 : Int) + ((plc n (0 : Int).toNat f true).length : Int) = (cntL n f : Int) := by rw [Int.zero_add]; rfl
  rw [e] at hh
  clear h hN
  go_enter Tryd.func14, Tryd.ntmps14
  go_wp2_with fail
  refine hh.mono ?_; rintro e w1 ⟨rfl, rfl⟩
  go_wp2_with fail
  go_ret
  exact ⟨rfl, rfl⟩
set_option maxRecDepth 20000 in
theorem first_any (v : Value) (n : Nat) (f : Nat → Bool) (z : Int) (hz : z < 9223372036854775808) (w : World) (h : Mp w v n f) (hN : Tz w) :
    Calls Tryd.prog 15 #[v, .int .i64 z] w fun e w' => e = .returned (.int .i64 (headZ (plc n z.toNat f false))) ∧ w' = w := by
  have hh := searchi_any 30 (enters_of Tryd.func30 (by kernel_rfl) rfl) (fun _ p => ((p : Int), true)) (-1) z v n f false w h hN hz (by decide) (by omega) (fun x p a b c => first1_any x p w) (fun x p a b => ⟨by show -1 ≤ (p : Int); omega, by show (p : Int) ≤ _; omega⟩)
  rw [goes_first] at hh
  obtain ⟨y, hy⟩ : ∃ y, y = headZ (plc n z.toNat f false) := ⟨_, rfl⟩
  rw [← hy] at hh ⊢
  clear h hN hy
  go_enter Tryd.func15, Tryd.ntmps15
  go_wp2_with fail
  refine hh.mono ?_; rintro e w1 ⟨rfl, rfl⟩
  go_wp2_with fail
  go_ret
  exact ⟨rfl, rfl⟩
end Go.Proofs.YthkflghekgbgcaaDoor

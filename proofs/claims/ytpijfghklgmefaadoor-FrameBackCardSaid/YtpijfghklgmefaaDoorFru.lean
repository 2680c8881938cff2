/-
  The law's Few: it answers; a record's text is short. Conditions: bounds.
-/
import Derived.Test.YtpijfghklgmefaaDoorFrt
import Derived.Test.YtpijfghklgmefaaDoorFrr
namespace Go.Proofs.YtpijfghklgmefaaDoor
open Go.RowKit Go.Proofs
set_option linter.unusedVariables false
set_option maxRecDepth 20000
set_option maxHeartbeats 3200000

/-- It answers. -/
def RetF17 (w : World) (e : Ending) (w' : World) : Prop := ∃ β : Bool, e = .returned (.bool β) ∧ Below w.heap.size w w'
theorem few17_any (z : Int) (st : Nat) (A : Option Addr) (n c : Nat) (l : List CvF) (w : World) (h : Chs w A n c l) :
    Calls Tryd.prog 7 #[.int .i64 z, .agg #[.int .u64 (st : Int), .slice A n c]] w (RetF17 w) := by
  have hlim := h.cap
  have hlim2 := h.top
  unfold maxLen at hlim2
  have hxa := ReB.new (w := w) (st := st) (A := A) (n := n) (c := c)
  have hb1 : Below w.heap.size w (w.alloc (.cells #[.int .u64 (st : Int), .slice A n c] 25)) := (Below.refl _ _).alloc (Nat.le_refl _) _
  obtain ⟨w1, hw1⟩ : ∃ x, x = w.alloc (.cells #[.int .u64 (st : Int), .slice A n c] 25) := ⟨_, rfl⟩
  have HW1 := Lib.hid hw1
  rw [← hw1] at hxa hb1
  have B1 := Lib.hid hb1
  have X := Lib.hid hxa
  have H := Lib.hid (h.below hb1)
  clear hxa hb1 hw1 h
  go_enter Tryd.func7, Tryd.ntmps7
  go_wp2_with (rw [← HW1.out])
  go_loopw [5] (fun iv wr => ∃ j : Nat, iv = .int .i64 (j : Int) ∧ j ≤ n ∧ Below w1.heap.size w1 wr) (fun iv _ => n - (intOf iv).toNat)
  case atStart => exact ⟨0, rfl, by omega, Below.refl _ _⟩
  case round =>
    obtain ⟨j, rfl, hj, hbe⟩ := hrel
    have a1 := (X.out.later hbe).c1
    have BE := Lib.hid (B1.out.trans (hbe.mono B1.out.size))
    have BF := Lib.hid hbe
    have HB := Lib.hid (H.out.below hbe)
    clear hbe
    by_cases hlt : j < n
    · have hji : (j : Int) < (n : Int) := by omega
      by_cases h40 : (j : Int) < 40
      · obtain ⟨v, hv⟩ : ∃ v, l[j]? = some v := ⟨_, List.getElem?_eq_getElem (by rw [HB.out.len]; exact hlt)⟩
        obtain ⟨b, o, rfl, hcl, hok⟩ := HB.out.cell j v hv
        have e2 := hcl 2 _ rfl
        have e0 := hcl 0 _ rfl
        rw [Nat.add_zero] at e0
        obtain ⟨m, hm⟩ : ∃ m, m = v.x.ps.length := ⟨_, rfl⟩
        rw [← hm] at e2
        obtain ⟨k, hk⟩ : ∃ k, k = v.x.key := ⟨_, rfl⟩
        rw [← hk] at e0
        clear hcl hok hm hk
        by_cases h1 : (60 : Int) < (m : Int)
        · by_cases h2 : (m : Int) < 400
          · go_wp2_with fail
            go_ret
            exact ⟨false, rfl, BE.out⟩
          · by_cases h3 : (402 : Int) < (m : Int)
            · go_wp2_with fail
              go_ret
              exact ⟨false, rfl, BE.out⟩
            · by_cases h4 : (100 : Int) < (k.size : Int)
              · go_wp2_with fail
                go_ret
                exact ⟨false, rfl, BE.out⟩
              · go_wp2_with fail
                go_roundw
                case rel => exact ⟨j + 1, by go_num, by omega, BF.out⟩
                case measure => simp [intOf]; omega
        · have h3 : ¬ (402 : Int) < (m : Int) := by omega
          by_cases h4 : (100 : Int) < (k.size : Int)
          · go_wp2_with fail
            go_ret
            exact ⟨false, rfl, BE.out⟩
          · go_wp2_with fail
            go_roundw
            case rel => exact ⟨j + 1, by go_num, by omega, BF.out⟩
            case measure => simp [intOf]; omega
      · go_wp2_with fail
        go_ret
        exact ⟨_, rfl, BE.out⟩
    · obtain rfl : n = j := by omega
      go_wp2_with fail
      go_ret
      exact ⟨_, rfl, BE.out⟩
theorem venc_short : ∀ (f n : Nat), (venc f n).length ≤ f + 1
  | 0, n => by simp [venc]
  | f + 1, n => by
    rw [venc]
    split
    · simp
    · have := venc_short f (n / 128)
      simp only [List.length_cons]
      omega
theorem flat_short {α : Type} (g : α → List UInt8) (m : Nat) : ∀ (l : List α), (∀ x ∈ l, (g x).length ≤ m) → (l.flatMap g).length ≤ m * l.length
  | [], _ => by simp
  | x :: r, h => by
    have h1 := h x (List.mem_cons_self ..)
    have h2 := flat_short g m r (fun y hy => h y (List.mem_cons_of_mem _ hy))
    rw [List.flatMap_cons, List.length_append, List.length_cons, Nat.mul_add]
    omega
theorem chB_short {x : ChF} (h : okC x = true) (h16 : x.key.size ≤ 16) : (chB x).length ≤ 4057 := by
  have hk : x.key.data.toList.length = x.key.size := rfl
  have h1 := venc_short 9 x.key.size
  rw [chB, List.length_append, List.length_append, hk]
  cases hd : x.dead
  · obtain ⟨_, h2, _⟩ := okC_parts h hd
    have h3 := flat_short (fun p : Int => venc 9 p.toNat) 10 x.ps (fun p _ => venc_short 9 _)
    have h4 := venc_short 9 x.q.toNat
    have h5 := venc_short 9 x.g
    have h6 := venc_short 9 x.ps.length
    rw [if_neg (by simp), List.length_cons, blobI, List.length_append, List.length_append, List.length_append]
    omega
  · rw [if_pos rfl]
    simp only [List.length_cons, List.length_nil]
    omega
theorem putR_short (st : Nat) (cs : List ChF) (h : okR cs = true) : (putR st cs).length ≤ 65000 := by
  unfold okR at h
  rw [Bool.and_eq_true] at h
  have hl := of_decide_eq_true h.1
  have h1 := venc_short 9 st
  have h2 := venc_short 9 cs.length
  have h3 := flat_short chB 4057 cs (fun x hx => by
    obtain ⟨h5, h6⟩ := okCs_each _ _ h.2 x hx
    exact chB_short h5 h6)
  rw [putR, List.length_append, List.length_append]
  omega
end Go.Proofs.YtpijfghklgmefaaDoor

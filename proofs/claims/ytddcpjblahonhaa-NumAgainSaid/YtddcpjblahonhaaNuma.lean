/-
  Contracts of package num's helpers: fits, inside, cut, and of bytes.Clone. No condition but that slices read as bytes.
-/
import Derived.Test.YtddcpjblahonhaaProg
import Derived.Test.YtddcpjblahonhaaKit
import Derived.Deep.QuietTactic
import Derived.BigQuiet
namespace Go.Proofs.Ytddcpjblahonhaa
open Go.RowKit
set_option linter.unusedVariables false

set_option maxHeartbeats 400000 in
theorem fits_yes (n : Int) (h1 : 1 ≤ n) (h2 : n ≤ 8) (w : World) : Calls Try.prog 26 #[.int .i64 n] w fun e w' => e = .returned (.bool true) ∧ w = w' := by
  go_enter Try.func26, Try.ntmps26
  go_wp2
  go_ret
  exact ⟨rfl, rfl⟩

set_option maxHeartbeats 400000 in
theorem fits_no (n : Int) (h : ¬ (1 ≤ n ∧ n ≤ 8)) (w : World) : Calls Try.prog 26 #[.int .i64 n] w fun e w' => e = .returned (.bool false) ∧ w = w' := by
  by_cases h1 : 1 ≤ n
  · have h2 : ¬ (n ≤ 8) := fun h2 => h ⟨h1, h2⟩
    clear h
    go_enter Try.func26, Try.ntmps26
    go_wp2
    go_ret
    exact ⟨rfl, rfl⟩
  · clear h
    go_enter Try.func26, Try.ntmps26
    go_wp2
    go_ret
    exact ⟨rfl, rfl⟩

set_option maxHeartbeats 400000 in
theorem inside_yes (A : Option Addr) (n c : Nat) (at_ : Int) (hn : n ≤ maxLen) (h0 : 0 ≤ at_) (h1 : at_ ≤ n) (w : World) :
    Calls Try.prog 29 #[.slice A n c, .int .i64 at_] w fun e w' => e = .returned (.bool true) ∧ w = w' := by
  unfold maxLen at hn
  go_enter Try.func29, Try.ntmps29
  go_wp2
  go_ret
  exact ⟨rfl, rfl⟩

set_option maxHeartbeats 400000 in
theorem inside_no (A : Option Addr) (n c : Nat) (at_ : Int) (hn : n ≤ maxLen) (h : ¬ (0 ≤ at_ ∧ at_ ≤ n)) (w : World) :
    Calls Try.prog 29 #[.slice A n c, .int .i64 at_] w fun e w' => e = .returned (.bool false) ∧ w = w' := by
  unfold maxLen at hn
  by_cases h0 : 0 ≤ at_
  · have h1 : ¬ (at_ ≤ n) := fun h1 => h ⟨h0, h1⟩
    clear h
    go_enter Try.func29, Try.ntmps29
    go_wp2
    go_ret
    exact ⟨rfl, rfl⟩
  · clear h
    go_enter Try.func29, Try.ntmps29
    go_wp2
    go_ret
    exact ⟨rfl, rfl⟩

set_option maxHeartbeats 400000 in
theorem cut_any (A : Option Addr) (n c : Nat) (h : n ≤ c) (hc : c ≤ maxLen) (w : World) :
    Calls Try.prog 27 #[.slice A n c] w fun e w' => e = .returned (.slice A n n) ∧ w = w' := by
  unfold maxLen at hc
  go_enter Try.func27, Try.ntmps27
  go_wp2
  go_ret
  exact ⟨rfl, rfl⟩

/-- What a call answers that makes bytes: a slice that reads as l; below block B nothing has turned. -/
def RetBytes (B : Nat) (w : World) (l : List UInt8) (e : Ending) (w' : World) : Prop := ∃ A n c, e = .returned (.slice A n c) ∧ Sl w' 1 A n c (cells l) ∧ Below B w w'

theorem info_u8 : (Try.prog.info? 5).map (fun i => (i.zero, i.size, i.bytes)) = some (some (.int .u8 0), 1, 1) := by kernel_rfl

section
variable {w : World} {B n c : Nat} {A : Option Addr} {xs : List Value}
theorem wpList_append_b {ops : Array Oper} {rest : List Oper} {o : Oper} {a : Act} {Q : Exit → Act → World → Prop} (hgd : o.guard = none) (s x : Operand)
    (ho : o.op = .call { callee := .builtin .append, args := #[s, x], argTypes := #[22, 22] })
    (hv : a.eval s = .slice A n c) (h : Own w B 5 1 A n c xs) (hB : B ≤ w.heap.size)
    (A2 : Option Addr) (m c2 : Nat) (ys : List UInt8) (hx : a.eval x = .slice A2 m c2) (hs : Sl w 1 A2 m c2 (cells ys)) (h47 : n + m ≤ 140737488355328)
    (hk : ∀ A' c' w', Own w' B 5 1 A' (n + m) c' (xs ++ cells ys) → Below B w w' → wpList Try.prog ops Q rest (a.put o.dst (.slice A' (n + m) c')) w') : wpList Try.prog ops Q (o :: rest) a w := by
  obtain ⟨i0, hi, hz0, hz1, hz2⟩ := info_parts info_u8
  exact wpList_append_any hgd s x _ _ ho i0 (.int .u8 0) 1 Try.underlying22 hi hz0 hz1 hz2 rfl (by decide) hv h hB m (cells ys) _ hx (hs.src Try.underlying22 (by decide) (cells_one ys)) (by unfold maxLen; omega) (by omega) hk
theorem wpList_append_s {ops : Array Oper} {rest : List Oper} {o : Oper} {a : Act} {Q : Exit → Act → World → Prop} (hgd : o.guard = none) (s x : Operand)
    (ho : o.op = .call { callee := .builtin .append, args := #[s, x], argTypes := #[22, 9] })
    (hv : a.eval s = .slice A n c) (h : Own w B 5 1 A n c xs) (hB : B ≤ w.heap.size)
    (t : ByteArray) (hx : a.eval x = .string t) (h47 : n + t.size ≤ 140737488355328)
    (hk : ∀ A' c' w', Own w' B 5 1 A' (n + t.size) c' (xs ++ cells t.data.toList) → Below B w w' → wpList Try.prog ops Q rest (a.put o.dst (.slice A' (n + t.size) c')) w') : wpList Try.prog ops Q (o :: rest) a w := by
  obtain ⟨i0, hi, hz0, hz1, hz2⟩ := info_parts info_u8
  exact wpList_append_any hgd s x _ _ ho i0 (.int .u8 0) 1 Try.underlying22 hi hz0 hz1 hz2 rfl (by decide) hv h hB t.size (cells t.data.toList) _ hx (Src.ofString w Try.underlying9 t) (by unfold maxLen; omega) (by omega) hk
end

theorem wpList_append_bm {w : World} {B n c : Nat} {A : Option Addr} {xs : List Value} {ops : Array Oper} {rest : List Oper} {o : Oper} {a : Act} {Q : Exit → Act → World → Prop} (hgd : o.guard = none) (s x : Operand)
    (ho : o.op = .call { callee := .builtin .append, args := #[s, x], argTypes := #[22, 22] })
    (hv : a.eval s = .slice A n c) (h : Own w B 5 1 A n c xs) (hB : B ≤ w.heap.size)
    (A2 : Option Addr) (m c2 : Nat) (ys : List UInt8) (hx : a.eval x = .slice A2 m c2) (hs : Sl w 1 A2 m c2 (cells ys)) (h47 : n + m ≤ 140737488355328)
    (hk : ∀ A' c' w', Own w' B 5 1 A' (n + m) c' (xs ++ cells ys) → Below B w w' → (0 < m → w'.ownsRow B 5 1 (.slice A' (n + m) c') (n + m) (xs ++ cells ys)) → wpList Try.prog ops Q rest (a.put o.dst (.slice A' (n + m) c')) w') : wpList Try.prog ops Q (o :: rest) a w := by
  obtain ⟨i0, hi, hz0, hz1, hz2⟩ := info_parts info_u8
  exact wpList_append_mine hgd s x _ _ ho i0 (.int .u8 0) 1 Try.underlying22 hi hz0 hz1 hz2 rfl (by decide) hv h hB m (cells ys) _ hx (hs.src Try.underlying22 (by decide) (cells_one ys)) (by unfold maxLen; omega) (by omega) hk

/-- What a call answers that makes bytes of its own, which may be written. -/
def RetMine (B : Nat) (w : World) (l : List UInt8) (e : Ending) (w' : World) : Prop := ∃ A n c, e = .returned (.slice A n c) ∧ Sl w' 1 A n c (cells l) ∧ Below B w w' ∧ Mine w' B 5 A n (cells l)
theorem RetMine.ret {B : Nat} {w : World} {l : List UInt8} {e : Ending} {w' : World} (h : RetMine B w l e w') : RetBytes B w l e w' := by
  obtain ⟨A, n, c, h1, h2, h3, _⟩ := h
  exact ⟨A, n, c, h1, h2, h3⟩

set_option maxHeartbeats 400000 in
theorem clone_mine (A : Option Addr) (n c : Nat) (l : List UInt8) (w : World) (h : Sl w 1 A n c (cells l)) (h47 : n ≤ 140737488355328) :
    Calls Try.prog 28 #[.slice A n c] w (RetMine w.heap.size w l) := by
  have hne := fun (W : World) => Lib.run_eql_slice_nil (P := Try.prog) W 22 5 A n c 0 0 Try.underlying22
  rcases A with _ | ad
  · go_enter Try.func28, Try.ntmps28
    go_wp2
    go_ret
    have hl : l = [] := by
      rcases l with _ | ⟨u, r⟩
      · rfl
      · obtain ⟨_, _, e, _⟩ := h.cell 0 (bv u) rfl
        cases e
    subst hl
    exact ⟨none, 0, 0, rfl, Sl.nil _ _ _ (by decide), Below.refl _ _, fun h => absurd h (by omega)⟩
  · go_enter Try.func28, Try.ntmps28
    go_wp2_with (at_builtin; refine wpList_append_bm (B := w.heap.size) rfl (.tmp 5) (.tmp 6) rfl rfl (Own.full (Sl.empty _ _ _ 0 (by decide))) ?c1 (some ad) n c l rfl ?c2 ?c3 ?c4)
    case c1 => simp
    case c2 => exact h.alloc _
    case c3 => omega
    intro A' c' w' ho hb hm
    have Hm := Lib.hid hm; clear hm
    go_wp2
    go_ret
    exact ⟨A', _, c', rfl, ho.sl, ((Below.refl _ _).alloc (Nat.le_refl _) _).trans hb, fun hn => Mine.of_own (Hm.out (by omega)) (by omega)⟩

theorem clone_any (A : Option Addr) (n c : Nat) (l : List UInt8) (w : World) (h : Sl w 1 A n c (cells l)) (h47 : n ≤ 140737488355328) :
    Calls Try.prog 28 #[.slice A n c] w (RetBytes w.heap.size w l) := (clone_mine A n c l w h h47).mono fun _ _ h => h.ret
end Go.Proofs.Ytddcpjblahonhaa

/-
  append onto a block that is known whole ('Rw'), or onto no slice at all: nothing but that block turns. Nothing here speaks of the program's own functions. No condition.
-/
import Derived.Test.YtmlmlmlbdjhfhaaDrk
namespace Go.Proofs.Ytmlmlmlbdjhfhaa
open Go.RowKit Go.Proofs
set_option linter.unusedVariables false

/-- No slice at all, or a block that is known whole. -/
def Rn (w : World) (A : Option Addr) (T : TypeId) (k n c : Nat) (xs : List Value) : Prop := (n = 0 ∧ A = none ∧ c = 0 ∧ xs = []) ∨ ∃ b, A = some ⟨b, 0, none⟩ ∧ Rw w b T k n c xs
/-- The block of an address. -/
def Bk (A : Option Addr) : Nat → Prop := fun b => ∃ o, A = some ⟨b, o, none⟩
/-- The blocks that append and the store behind it turn. -/
def Bk7 (D : Nat) (A : Option Addr) : Nat → Prop := fun b => b = D ∨ Bk A b
section
variable {w w' : World} {A : Option Addr} {T : TypeId} {size n c : Nat} {xs : List Value}
theorem Rn.sl (h : Rn w A T size n c xs) : Sl w size A n c xs := by
  rcases h with ⟨rfl, rfl, rfl, rfl⟩ | ⟨b, rfl, hr⟩
  · exact Sl.nil w size 0 (by decide)
  · exact hr.sl
theorem Rn.fr {S : Nat → Prop} (h : Rn w A T size n c xs) (hf : Fr S w w') (hA : ∀ b, Bk A b → ¬ S b) : Rn w' A T size n c xs := by
  rcases h with q | ⟨b, rfl, hr⟩
  · exact .inl q
  · exact .inr ⟨b, rfl, hr.fr hf (hA b ⟨0, rfl⟩)⟩
theorem Rn.later (h : Rn w A T size n c xs) (hb : Below w.heap.size w w') : Rn w' A T size n c xs := h.fr (Fr.of_below hb : Fr (fun _ => False) _ _) (fun _ _ h => h)
theorem Rn.lt (h : Rn w A T size n c xs) {b : Nat} (hb : Bk A b) : b < w.heap.size := by
  obtain ⟨o, ho⟩ := hb
  rcases h with ⟨_, hA, _⟩ | ⟨g, hA, hr⟩
  · rw [hA] at ho; cases ho
  · rw [hA] at ho
    injection ho with ho
    injection ho with ho _
    rw [← ho]
    exact hr.lt
theorem run_append_rw {P : Program} (t tx ty : TypeId) (i : TypeInfo) (z : Value) (bytes : Nat) (ht : P.underlying t = some (.slice T)) (hi : P.info? T = some i) (hz : i.zero = some z)
    (hsize : i.size = size) (hby : i.bytes = bytes) (hzs : z.cells.size = size) (hsz : 0 < size) (h : Rn w A T size n c xs)
    (x : Value) (m : Nat) (ys : List Value) (hs : Src P size tx x m ys w) (hm : 0 < m) (h63 : n + m ≤ maxLen) (hbytes : (n + m) * bytes ≤ 140737488355328) :
    ∃ b c' w', (Builtin.append_ #[t, tx] ty #[.slice A n c, x]).run P w = .ok (.slice (some ⟨b, 0, none⟩) (n + m) c') w' ∧ Rw w' b T size (n + m) c' (xs ++ ys) ∧ Fr (Bk A) w w' ∧ (A = some ⟨b, 0, none⟩ ∨ b = w.heap.size) := by
  subst hsize
  subst hby
  have hcap : n ≤ c := h.sl.cap
  by_cases hroom : n + m ≤ c
  · obtain ⟨g, rfl, hr⟩ : ∃ b, A = some ⟨b, 0, none⟩ ∧ Rw w b T i.size n c xs := by
      rcases h with ⟨_, _, h0, _⟩ | h
      · omega
      · exact h
    obtain ⟨cur, hg, hcs, htake⟩ := hr.ex
    have hl := hr.len
    have hfit : n * i.size + ys.length ≤ cur.size := by rw [hs.newsLen, hcs, ← Nat.add_mul]; exact Nat.mul_le_mul_right _ hroom
    have hrun := run_append_room_src (P := P) w t tx ty T i ht hi g 0 n c x m ys hs hroom (fun j hj => by simp [World.cell?, hg]; omega) (fun j hj => by simp [World.frozen?, hg])
    rw [Nat.zero_add, setCells_row P hg hfit hs.one] at hrun
    have hlen : (xs ++ ys).length = (n + m) * i.size := by rw [List.length_append, hl, hs.newsLen, Nat.add_mul]
    refine ⟨g, c, _, hrun, ⟨⟨_, setRow_heap w g cur _ T _ hg, ?_, ?_⟩, hroom, hr.top⟩, ⟨rfl, rfl, rfl, by simp, fun k hk hnk => setRow_other w g k _ (fun e => hnk ⟨0, by rw [e]⟩)⟩, .inl rfl⟩
    · simp only [List.size_toArray, List.length_append, List.length_take, List.length_drop, Array.length_toList]
      omega
    · rw [htake, ← hlen]
      exact List.take_left
  · have hc : c < n + m := by omega
    have hsl := h.sl
    have hrun := run_append_grow_src (P := P) w t tx ty T i z ht hi hz A n c xs (hsl.drew.firstCells) x m ys hs hc (by unfold maxLen at h63; omega) (growslice_fits hc hbytes)
    have hge := grownCap_ge w (n + m) c T
    have hcm : grownCap w (n + m) c T ≤ maxLen := grownCap_le_maxLen w (n + m) c T h63
    have hlen : (xs ++ ys).length = (n + m) * i.size := by rw [List.length_append, hsl.len, hs.newsLen, Nat.add_mul]
    refine ⟨w.heap.size, _, _, hrun, ⟨⟨_, heap_alloc_new w.drew _, ?_, ?_⟩, hge, hcm⟩, ((Fr.refl _ _).drew).alloc _, .inr rfl⟩
    · simp only [Array.size_append, List.size_toArray, size_zeroCells, hzs, hlen, ← Nat.add_mul]
      congr 1
      omega
    · simp only [Array.toList_append]
      rw [← hlen]
      exact List.take_left
theorem wp_append_rw {P : Program} {o : Oper} {a : Act} {K : Act → World → Prop} {Q : Exit → Act → World → Prop} (s x : Operand) (t tx : TypeId)
    (ho : o.op = .call { callee := .builtin .append, args := #[s, x], argTypes := #[t, tx] })
    (i : TypeInfo) (z : Value) (bytes : Nat) (ht : P.underlying t = some (.slice T)) (hi : P.info? T = some i) (hz : i.zero = some z)
    (hsize : i.size = size) (hby : i.bytes = bytes) (hzs : z.cells.size = size) (hsz : 0 < size) (hv : a.eval s = .slice A n c) (h : Rn w A T size n c xs)
    (xv : Value) (m : Nat) (ys : List Value) (hx : a.eval x = xv) (hs : Src P size tx xv m ys w) (hm : 0 < m) (h63 : n + m ≤ maxLen) (hbytes : (n + m) * bytes ≤ 140737488355328)
    (hk : ∀ b c' w', Rw w' b T size (n + m) c' (xs ++ ys) → Fr (Bk A) w w' → (A = some ⟨b, 0, none⟩ ∨ b = w.heap.size) → K (a.put o.dst (.slice (some ⟨b, 0, none⟩) (n + m) c')) w') : o.wp P a w K Q := by
  obtain ⟨b, c', w', hr, h2, h3, h4⟩ := run_append_rw (P := P) t tx o.type i z bytes ht hi hz hsize hby hzs hsz h xv m ys hs hm h63 hbytes
  unfold Oper.wp execOp
  simp only [ho, resolve, invoke, builtin, Sem.run_bind, Sem.run_pure, Result.andThen_ok, List.map_toArray, List.map_cons, List.map_nil, hv, hx, hr]
  exact hk b c' w' h2 h3 h4
theorem wpList_append_rw {P : Program} {ops : Array Oper} {rest : List Oper} {o : Oper} {a : Act} {Q : Exit → Act → World → Prop} (hgd : o.guard = none) (s x : Operand) (t tx : TypeId)
    (ho : o.op = .call { callee := .builtin .append, args := #[s, x], argTypes := #[t, tx] })
    (i : TypeInfo) (z : Value) (bytes : Nat) (ht : P.underlying t = some (.slice T)) (hi : P.info? T = some i) (hz : i.zero = some z)
    (hsize : i.size = size) (hby : i.bytes = bytes) (hzs : z.cells.size = size) (hsz : 0 < size) (hv : a.eval s = .slice A n c) (h : Rn w A T size n c xs)
    (xv : Value) (m : Nat) (ys : List Value) (hx : a.eval x = xv) (hs : Src P size tx xv m ys w) (hm : 0 < m) (h63 : n + m ≤ maxLen) (hbytes : (n + m) * bytes ≤ 140737488355328)
    (hk : ∀ b c' w', Rw w' b T size (n + m) c' (xs ++ ys) → Fr (Bk A) w w' → (A = some ⟨b, 0, none⟩ ∨ b = w.heap.size) → wpList P ops Q rest (a.put o.dst (.slice (some ⟨b, 0, none⟩) (n + m) c')) w') : wpList P ops Q (o :: rest) a w :=
  wpList_plain hgd fun _ hK => wp_append_rw s x t tx ho i z bytes ht hi hz hsize hby hzs hsz hv h xv m ys hx hs hm h63 hbytes fun b c' w' h2 h3 h4 => hK _ _ (hk b c' w' h2 h3 h4)
theorem wpList_append_no {P : Program} {ops : Array Oper} {rest : List Oper} {o : Oper} {a : Act} {Q : Exit → Act → World → Prop} (hgd : o.guard = none) (s x : Operand) (t tx : TypeId)
    (ho : o.op = .call { callee := .builtin .append, args := #[s, x], argTypes := #[t, tx] })
    (i : TypeInfo) (ht : P.underlying t = some (.slice T)) (hi : P.info? T = some i) (hsize : i.size = size) (hv : a.eval s = .slice A n c) (hc : n ≤ c)
    (xv : Value) (hx : a.eval x = xv) (hs : Src P size tx xv 0 [] w)
    (hk : wpList P ops Q rest (a.put o.dst (.slice A n c)) w) : wpList P ops Q (o :: rest) a w := by
  subst hsize
  have hr := run_append_nothing (P := P) w t tx o.type T i ht hi A n c hc xv hs
  refine wpList_plain hgd fun _ hK => ?_
  unfold Oper.wp execOp
  simp only [ho, resolve, invoke, builtin, Sem.run_bind, Sem.run_pure, Result.andThen_ok, List.map_toArray, List.map_cons, List.map_nil, hv, hx, hr]
  exact hK _ _ hk
/-- The same, of whatever number of elements, none among them. -/
theorem run_append_rn {P : Program} (t tx ty : TypeId) (i : TypeInfo) (z : Value) (bytes : Nat) (ht : P.underlying t = some (.slice T)) (hi : P.info? T = some i) (hz : i.zero = some z)
    (hsize : i.size = size) (hby : i.bytes = bytes) (hzs : z.cells.size = size) (hsz : 0 < size) (h : Rn w A T size n c xs)
    (x : Value) (m : Nat) (ys : List Value) (hs : Src P size tx x m ys w) (h63 : n + m ≤ maxLen) (hbytes : (n + m) * bytes ≤ 140737488355328) :
    ∃ A' c' w', (Builtin.append_ #[t, tx] ty #[.slice A n c, x]).run P w = .ok (.slice A' (n + m) c') w' ∧ Rn w' A' T size (n + m) c' (xs ++ ys) ∧ Fr (Bk A) w w' ∧ (A' = A ∨ A' = some ⟨w.heap.size, 0, none⟩) := by
  by_cases hm : m = 0
  · subst hm
    have hy : ys = [] := List.eq_nil_of_length_eq_zero (by have := hs.newsLen; omega)
    subst hy
    subst hsize
    have hcap : n ≤ c := h.sl.cap
    exact ⟨A, c, w, run_append_nothing w t tx ty T i ht hi A n c hcap x hs, by simpa using h, Fr.refl _ _, .inl rfl⟩
  · obtain ⟨b, c', w', h1, h2, h3, h4⟩ := run_append_rw (P := P) t tx ty i z bytes ht hi hz hsize hby hzs hsz h x m ys hs (by omega) h63 hbytes
    exact ⟨_, c', w', h1, .inr ⟨b, rfl, h2⟩, h3, h4.imp (fun e => e.symm) (fun e => by rw [e])⟩
theorem wp_append_rn {P : Program} {o : Oper} {a : Act} {K : Act → World → Prop} {Q : Exit → Act → World → Prop} (s x : Operand) (t tx : TypeId)
    (ho : o.op = .call { callee := .builtin .append, args := #[s, x], argTypes := #[t, tx] })
    (i : TypeInfo) (z : Value) (bytes : Nat) (ht : P.underlying t = some (.slice T)) (hi : P.info? T = some i) (hz : i.zero = some z)
    (hsize : i.size = size) (hby : i.bytes = bytes) (hzs : z.cells.size = size) (hsz : 0 < size) (hv : a.eval s = .slice A n c) (h : Rn w A T size n c xs)
    (xv : Value) (m : Nat) (ys : List Value) (hx : a.eval x = xv) (hs : Src P size tx xv m ys w) (h63 : n + m ≤ maxLen) (hbytes : (n + m) * bytes ≤ 140737488355328)
    (hk : ∀ A' c' w', Rn w' A' T size (n + m) c' (xs ++ ys) → Fr (Bk A) w w' → (A' = A ∨ A' = some ⟨w.heap.size, 0, none⟩) → K (a.put o.dst (.slice A' (n + m) c')) w') : o.wp P a w K Q := by
  obtain ⟨A', c', w', hr, h2, h3, h4⟩ := run_append_rn (P := P) t tx o.type i z bytes ht hi hz hsize hby hzs hsz h xv m ys hs h63 hbytes
  unfold Oper.wp execOp
  simp only [ho, resolve, invoke, builtin, Sem.run_bind, Sem.run_pure, Result.andThen_ok, List.map_toArray, List.map_cons, List.map_nil, hv, hx, hr]
  exact hk A' c' w' h2 h3 h4
theorem wpList_append_rn {P : Program} {ops : Array Oper} {rest : List Oper} {o : Oper} {a : Act} {Q : Exit → Act → World → Prop} (hgd : o.guard = none) (s x : Operand) (t tx : TypeId)
    (ho : o.op = .call { callee := .builtin .append, args := #[s, x], argTypes := #[t, tx] })
    (i : TypeInfo) (z : Value) (bytes : Nat) (ht : P.underlying t = some (.slice T)) (hi : P.info? T = some i) (hz : i.zero = some z)
    (hsize : i.size = size) (hby : i.bytes = bytes) (hzs : z.cells.size = size) (hsz : 0 < size) (hv : a.eval s = .slice A n c) (h : Rn w A T size n c xs)
    (xv : Value) (m : Nat) (ys : List Value) (hx : a.eval x = xv) (hs : Src P size tx xv m ys w) (h63 : n + m ≤ maxLen) (hbytes : (n + m) * bytes ≤ 140737488355328)
    (hk : ∀ A' c' w', Rn w' A' T size (n + m) c' (xs ++ ys) → Fr (Bk A) w w' → (A' = A ∨ A' = some ⟨w.heap.size, 0, none⟩) → wpList P ops Q rest (a.put o.dst (.slice A' (n + m) c')) w') : wpList P ops Q (o :: rest) a w :=
  wpList_plain hgd fun _ hK => wp_append_rn s x t tx ho i z bytes ht hi hz hsize hby hzs hsz hv h xv m ys hx hs h63 hbytes fun A' c' w' h2 h3 h4 => hK _ _ (hk A' c' w' h2 h3 h4)
end
end Go.Proofs.Ytmlmlmlbdjhfhaa

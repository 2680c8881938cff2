/-
  What follows of products and inverses: MatrixChains in plain words. No condition.
-/
import Derived.Test.YtccnoflgbopjlaaMdu
namespace Go.Proofs.Ytccnoflgbopjlaa
open Go.RowKit Go.Proofs
set_option linter.unusedVariables false

theorem MulR.ok {a b o : M3} (h : MulR a b o 0) : ∃ R D C, a.Is R D (mx D a.l) ∧ b.Is D C (mx C b.l) ∧ o.Is R C (mm D (mx D a.l) (mx C b.l)) := by
  rcases h with ⟨R, D, C, h1, h2, h3, _⟩ | ⟨_, _, h⟩
  · exact ⟨R, D, C, h1, h2, h3⟩
  · exact absurd h (by decide)
theorem MulR.go {a b o : M3} {x : Int} {R D C : Nat} {f g : Mx} (h : MulR a b o x) (ha : a.Is R D f) (hb : b.Is D C g) : x = 0 ∧ o.Is R C (mm D f g) := by
  rcases h with ⟨R', D', C', h1, h2, h3, hx⟩ | ⟨hn, _, _⟩
  · obtain ⟨rfl, rfl⟩ := ha.unique h1
    obtain ⟨_, rfl⟩ := hb.unique h2
    exact ⟨hx, h3.congr (mm_congr ha.mx hb.mx)⟩
  · exact absurd ⟨ha.ok, hb.ok, by rw [ha.c, hb.r]⟩ hn
theorem InvR.ok {a o : M3} (h : InvR a o 0) : ∃ n X, a.Is n n (mx n a.l) ∧ Alike n n (mm n X (mx n a.l)) one ∧ o.Is n n X := by
  rcases h with ⟨n, hA, ⟨X, hX, ho, _⟩ | ⟨L, _, _, _, h⟩⟩ | ⟨_, _, h⟩
  · exact ⟨n, X, hA, hX, ho⟩
  · exact absurd h (by decide)
  · exact absurd h (by decide)
/-- Of a square matrix with an inverse. -/
theorem InvR.go {a o : M3} {x : Int} {n : Nat} {f Y : Mx} (h : InvR a o x) (ha : a.Is n n f) (hY : Alike n n (mm n Y f) one) : x = 0 ∧ o.Is n n Y := by
  have hY2 : Alike n n (mm n Y (mx n a.l)) one := fun i hi j hj => by
    rw [mm_congr (r := n) (c := n) (fun _ _ _ _ => rfl) ha.mx i hi j hj]
    exact hY i hi j hj
  rcases h with ⟨n', hA, h⟩ | ⟨hn, _, _⟩
  · obtain ⟨rfl, _⟩ := ha.unique hA
    rcases h with ⟨X, hX, ho, hx⟩ | ⟨L, hL, hk, _, _⟩
    · exact ⟨hx, ho.congr (inverse_one hX (inverse_both hY2))⟩
    · have := hk.unique (rk_of_inverse hY2)
      omega
  · exact absurd ⟨ha.ok, by rw [ha.r, ha.c]⟩ hn

theorem chains_assoc {a b c ab bc x y : M3} {x3 x4 : Int} (h1 : MulR a b ab 0) (h2 : MulR b c bc 0) (h3 : MulR ab c x x3) (h4 : MulR a bc y x4) : x3 = 0 ∧ x4 = 0 ∧ x = y := by
  obtain ⟨R, D, C, ha, hb, hab⟩ := h1.ok
  obtain ⟨D', C', E, hb', hc, hbc⟩ := h2.ok
  obtain ⟨rfl, rfl⟩ := hb.unique hb'
  obtain ⟨hx3, hx⟩ := h3.go hab hc
  obtain ⟨hx4, hy⟩ := h4.go ha hbc
  exact ⟨hx3, hx4, hx.same hy fun i _ j _ => by rw [mm_assoc]⟩
theorem chains_inv {a b ab p q z w : M3} {x7 x8 : Int} (h1 : MulR a b ab 0) (h2 : InvR a p 0) (h3 : InvR b q 0) (h4 : InvR ab z x7) (h5 : MulR q p w x8) : x7 = 0 ∧ x8 = 0 ∧ z = w := by
  obtain ⟨n, X, ha, hX, hp⟩ := h2.ok
  obtain ⟨n', Y, hb, hY, hq⟩ := h3.ok
  obtain ⟨R, D, C, ha', hb', hab⟩ := h1.ok
  obtain ⟨rfl, rfl⟩ := ha.unique ha'
  obtain ⟨rfl, rfl⟩ := hb.unique hb'
  obtain ⟨hx8, hw⟩ := h5.go hq hp
  have hI : Alike n' n' (mm n' (mm n' Y X) (mm n' (mx n' a.l) (mx n' b.l))) one := fun i hi j hj => by
    rw [mm_assoc, ← mm_assoc n' n' X, mm_congr (r := n') (c := n') (fun _ _ _ _ => rfl) (mm_congr (r := n') (c := n') hX (fun _ _ _ _ => rfl)) i hi j hj]
    rw [mm_congr (r := n') (c := n') (A' := Y) (B' := mx n' b.l) (fun _ _ _ _ => rfl) (fun i hi j _ => mm_one_left n' _ i j hi) i hi j hj]
    exact hY i hi j hj
  obtain ⟨hx7, hz⟩ := h4.go hab hI
  exact ⟨hx7, hx8, hz.same hw fun _ _ _ _ => rfl⟩

theorem MB.arg {w w' : World} {T g : Nat} {m : M3} {A : Option Addr} {cp : Nat} (hs : Sl w 1 A m.l.length cp (cells m.l)) (hb : Below w.heap.size w w') (hT : w.heap.size ≤ T) (hg : w'.heap[g]? = some (m.box A cp)) (hgT : g ≠ T) : MB w' T g m.r m.c A m.l.length cp m.l :=
  ⟨hg, ⟨hs.below hb (Nat.le_refl _), fun b o hn hA => by have := hs.lt (by decide) hn hA; omega⟩, hgT⟩
theorem St.start1 {w w' : World} {F T : Nat} {a : M3} {A1 : Option Addr} {p1 : Nat}
    (hf : Fld w' F T) (hT : T = (w.alloc (a.box A1 p1)).heap.size) (hb : Below (w.alloc (a.box A1 p1)).heap.size (w.alloc (a.box A1 p1)) w') (s1 : Sl w 1 A1 a.l.length p1 (cells a.l)) : St w F T [⟨w.heap.size, a, A1, p1⟩] w' := by
  have hz : (w.alloc (a.box A1 p1)).heap.size = w.heap.size + 1 := by simp
  have h0 : Below w.heap.size w w' := ((Below.refl _ _).alloc (Nat.le_refl _) _).trans (hb.mono (by omega))
  refine ⟨⟨h0, hf, by omega⟩, fun v hv => ?_⟩
  rcases List.mem_cons.1 hv with rfl | hv
  · exact MB.arg s1 h0 (by omega) ((hb.block _ (by show w.heap.size < _; omega)).trans (heap_alloc_new w _)) (by show w.heap.size ≠ T; omega)
  · cases hv
theorem St.start2 {w w' : World} {F T : Nat} {a b : M3} {A1 A2 : Option Addr} {p1 p2 : Nat}
    (hf : Fld w' F T) (hT : T = ((w.alloc (a.box A1 p1)).alloc (b.box A2 p2)).heap.size) (hb : Below ((w.alloc (a.box A1 p1)).alloc (b.box A2 p2)).heap.size ((w.alloc (a.box A1 p1)).alloc (b.box A2 p2)) w')
    (s1 : Sl w 1 A1 a.l.length p1 (cells a.l)) (s2 : Sl w 1 A2 b.l.length p2 (cells b.l)) : St w F T [⟨w.heap.size, a, A1, p1⟩, ⟨w.heap.size + 1, b, A2, p2⟩] w' := by
  have hz : ((w.alloc (a.box A1 p1)).alloc (b.box A2 p2)).heap.size = w.heap.size + 2 := by simp
  have h0 : Below w.heap.size w w' := (((Below.refl _ _).alloc (Nat.le_refl _) _).alloc (by simp) _).trans (hb.mono (by omega))
  refine ⟨⟨h0, hf, by omega⟩, fun v hv => ?_⟩
  rcases List.mem_cons.1 hv with rfl | hv
  · exact MB.arg s1 h0 (by omega) ((hb.block _ (by show w.heap.size < _; omega)).trans (alloc2_old w _ _)) (by show w.heap.size ≠ T; omega)
  rcases List.mem_cons.1 hv with rfl | hv
  · exact MB.arg s2 h0 (by omega) ((hb.block _ (by show w.heap.size + 1 < _; omega)).trans (alloc2_new w _ _)) (by show w.heap.size + 1 ≠ T; omega)
  · cases hv
theorem St.start3 {w w' : World} {F T : Nat} {a b c : M3} {A1 A2 A3 : Option Addr} {p1 p2 p3 : Nat}
    (hf : Fld w' F T) (hT : T = (((w.alloc (a.box A1 p1)).alloc (b.box A2 p2)).alloc (c.box A3 p3)).heap.size) (hb : Below (((w.alloc (a.box A1 p1)).alloc (b.box A2 p2)).alloc (c.box A3 p3)).heap.size (((w.alloc (a.box A1 p1)).alloc (b.box A2 p2)).alloc (c.box A3 p3)) w')
    (s1 : Sl w 1 A1 a.l.length p1 (cells a.l)) (s2 : Sl w 1 A2 b.l.length p2 (cells b.l)) (s3 : Sl w 1 A3 c.l.length p3 (cells c.l)) : St w F T [⟨w.heap.size, a, A1, p1⟩, ⟨w.heap.size + 1, b, A2, p2⟩, ⟨w.heap.size + 1 + 1, c, A3, p3⟩] w' := by
  have hz : (((w.alloc (a.box A1 p1)).alloc (b.box A2 p2)).alloc (c.box A3 p3)).heap.size = w.heap.size + 3 := by simp
  have h0 : Below w.heap.size w w' := ((((Below.refl _ _).alloc (Nat.le_refl _) _).alloc (by simp) _).alloc (by simp; omega) _).trans (hb.mono (by omega))
  have e3 : (((w.alloc (a.box A1 p1)).alloc (b.box A2 p2)).alloc (c.box A3 p3)).heap[w.heap.size + 1 + 1]? = some (c.box A3 p3) := by
    have := alloc2_new (w.alloc (a.box A1 p1)) (b.box A2 p2) (c.box A3 p3)
    rwa [show (w.alloc (a.box A1 p1)).heap.size + 1 = w.heap.size + 1 + 1 from by simp] at this
  refine ⟨⟨h0, hf, by omega⟩, fun v hv => ?_⟩
  rcases List.mem_cons.1 hv with rfl | hv
  · exact MB.arg s1 h0 (by omega) ((hb.block _ (by show w.heap.size < _; omega)).trans ((Below.heap_alloc _ _ _ (by simp; omega)).trans (alloc2_old w _ _))) (by show w.heap.size ≠ T; omega)
  rcases List.mem_cons.1 hv with rfl | hv
  · exact MB.arg s2 h0 (by omega) ((hb.block _ (by show w.heap.size + 1 < _; omega)).trans ((Below.heap_alloc _ _ _ (by simp)).trans (alloc2_new w _ _))) (by show w.heap.size + 1 ≠ T; omega)
  rcases List.mem_cons.1 hv with rfl | hv
  · exact MB.arg s3 h0 (by omega) ((hb.block _ (by show w.heap.size + 1 + 1 < _; omega)).trans e3) (by show w.heap.size + 1 + 1 ≠ T; omega)
  · cases hv
end Go.Proofs.Ytccnoflgbopjlaa

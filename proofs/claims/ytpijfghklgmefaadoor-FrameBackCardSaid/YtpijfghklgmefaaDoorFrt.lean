/-
  Plain: what GetRecord reads without a fault is the text that PutRecord puts of it. No program, no condition.
-/
import Derived.Test.YtpijfghklgmefaaDoorFrs
namespace Go.Proofs.YtpijfghklgmefaaDoor
set_option linter.unusedVariables false
set_option maxRecDepth 20000

theorem take_seg17 (l : List UInt8) {a p : Nat} (h : a ≤ p) : l.take p = l.take a ++ (l.drop a).take (p - a) := by
  rw [← List.take_add]
  congr 1
  omega
theorem tkG_done {α : Type} {none : α} {get : Nat → α × Nat × Nat} {right : α → Bool} {s : Nat × Nat} (h : (tkG none get right s).2.2 = 0) :
    s.2 = 0 ∧ (get s.1).2.2 = 0 ∧ right (get s.1).1 = true ∧ tkG none get right s = ((get s.1).1, ((get s.1).2.1, 0)) := by
  unfold tkG at h ⊢
  by_cases h1 : s.2 ≠ 0
  · rw [if_pos h1] at h
    exact absurd h h1
  · rw [if_neg h1] at h ⊢
    by_cases h2 : (get s.1).2.2 ≠ 0
    · rw [if_pos h2] at h
      exact absurd h h2
    · rw [if_neg h2] at h ⊢
      by_cases h3 : right (get s.1).1 = false
      · rw [if_pos h3] at h
        exact absurd h (show ¬ (3 : Nat) = 0 by decide)
      · rw [if_neg h3]
        exact ⟨Decidable.not_not.1 h1, Decidable.not_not.1 h2, by simpa using h3, rfl⟩
theorem varR_seg {l : List UInt8} {a : Nat} (h : (varR l (a : Int)).2.2 = 0) : (varR l (a : Int)).2.1 ≤ l.length ∧ (varR l (a : Int)).1 < 2 ^ 64 ∧ l.take (varR l (a : Int)).2.1 = l.take a ++ venc 9 (varR l (a : Int)).1 := by
  obtain ⟨b, hb, h1, h2, h3, h4⟩ := varR_ok h
  obtain rfl : a = b := by omega
  exact ⟨h2, h3, by rw [h4]; exact take_seg17 l (by omega)⟩
theorem longR_seg {l : List UInt8} {a : Nat} (h : (longR l (a : Int) 16).2.2 = 0) : (longR l (a : Int) 16).1.length ≤ 16 ∧ (longR l (a : Int) 16).2.1 ≤ l.length ∧ l.take (longR l (a : Int) 16).2.1 = l.take a ++ (venc 9 (longR l (a : Int) 16).1.length ++ (longR l (a : Int) 16).1) := by
  unfold longR at h ⊢
  by_cases he : (varR l (a : Int)).2.2 = 0
  · obtain ⟨v1, v2, v3⟩ := varR_seg he
    rw [if_neg (by simp [he])] at h ⊢
    generalize (varR l (a : Int)).1 = n0 at *
    generalize (varR l (a : Int)).2.1 = p0 at *
    by_cases hm : max (16 : Int) 0 < (n0 : Int)
    · rw [if_pos hm] at h
      exact absurd h (by decide)
    rw [if_neg hm] at h ⊢
    by_cases hs : l.length - p0 < n0
    · rw [if_pos hs] at h
      exact absurd h (by decide)
    rw [if_neg hs]
    have hl : ((l.drop p0).take n0).length = n0 := by rw [List.length_take, List.length_drop]; omega
    dsimp only
    rw [hl]
    refine ⟨by omega, by omega, ?_⟩
    rw [← List.append_assoc, ← v3, List.take_add]
  · rw [if_pos he] at h
    exact absurd h he
theorem fate_seg {l : List UInt8} {a : Nat} (h : (getN16 l (a : Int) 1).2 = 0) (h1 : (getN16 l (a : Int) 1).1 ≤ 1) : a + 1 ≤ l.length ∧ l.take (a + 1) = l.take a ++ [UInt8.ofNat (getN16 l (a : Int) 1).1] := by
  unfold getN16 at h h1 ⊢
  by_cases c : ¬ ((1 : Int) ≤ 1 ∧ (1 : Int) ≤ 8) ∨ ¬ (0 ≤ (a : Int) ∧ (a : Int) ≤ l.length)
  · rw [if_pos c] at h
    exact absurd h (by decide)
  rw [if_neg c] at h h1 ⊢
  by_cases c2 : (l.length : Int) - (a : Int) < 1
  · rw [if_pos c2] at h
    exact absurd h (by decide)
  rw [if_neg c2] at h1 ⊢
  have hlt : a < l.length := by omega
  refine ⟨by omega, ?_⟩
  rw [take_seg17 l (show a ≤ a + 1 by omega), Int.toNat_natCast]
  congr 1
  have e : (l.drop a).take (a + 1 - a) = [l[a]] := by
    rw [show a + 1 - a = 1 by omega, List.drop_eq_getElem_cons hlt]
    rfl
  have e2 : (l.drop a).take (Int.toNat 1) = [l[a]] := by
    rw [show Int.toNat 1 = 1 from rfl, List.drop_eq_getElem_cons hlt]
    rfl
  rw [e, e2]
  simp [leVal]
theorem tk1_ok {l : List UInt8} {most : Nat} {s : Nat × Nat} (h : (tk1 l most s).2.2 = 0) : s.2 = 0 ∧ (tk1 l most s).1 ≤ most ∧ (tk1 l most s).1 < 2 ^ 64 ∧ (tk1 l most s).2.1 ≤ l.length ∧ l.take (tk1 l most s).2.1 = l.take s.1 ++ venc 9 (tk1 l most s).1 := by
  unfold tk1 at h ⊢
  by_cases h1 : s.2 ≠ 0
  · rw [if_pos h1] at h
    exact absurd h h1
  rw [if_neg h1] at h ⊢
  by_cases h2 : (varR l s.1).2.2 ≠ 0
  · rw [if_pos h2] at h
    exact absurd h h2
  rw [if_neg h2] at h ⊢
  by_cases h3 : most < (varR l s.1).1
  · rw [if_pos h3] at h
    exact absurd h (show ¬ (3 : Nat) = 0 by decide)
  rw [if_neg h3]
  obtain ⟨v1, v2, v3⟩ := varR_seg (Decidable.not_not.1 h2)
  exact ⟨Decidable.not_not.1 h1, by dsimp only; omega, v2, v1, v3⟩
theorem tkN_ok {l : List UInt8} {most : Nat} : ∀ (k : Nat) (s : Nat × Nat), s.1 ≤ l.length → (tkN l most k s).2.2 = 0 →
    s.2 = 0 ∧ (tkN l most k s).1.length = k ∧ (∀ x ∈ (tkN l most k s).1, x ≤ most) ∧ (tkN l most k s).2.1 ≤ l.length ∧ l.take (tkN l most k s).2.1 = l.take s.1 ++ (tkN l most k s).1.flatMap (venc 9)
  | 0, s, hs, h => ⟨h, rfl, fun x hx => (by cases hx), hs, by simp [tkN]⟩
  | k + 1, s, hs, h => by
    rw [tkN] at h ⊢
    dsimp only at h ⊢
    have hx : (tk1 l most s).2.1 ≤ l.length := by
      unfold tk1
      by_cases h1 : s.2 ≠ 0
      · rw [if_pos h1]; exact hs
      rw [if_neg h1]
      by_cases h2 : (varR l s.1).2.2 ≠ 0
      · rw [if_pos h2]; exact hs
      rw [if_neg h2]
      by_cases h3 : most < (varR l s.1).1
      · rw [if_pos h3]; exact hs
      rw [if_neg h3]
      exact (varR_seg (Decidable.not_not.1 h2)).1
    obtain ⟨i1, i2, i3, i4, i5⟩ := tkN_ok k _ hx h
    obtain ⟨j1, j2, j3, j4, j5⟩ := tk1_ok i1
    refine ⟨j1, by rw [List.length_cons, i2], fun x hx => ?_, i4, by rw [i5, j5, List.flatMap_cons, List.append_assoc]⟩
    rcases List.mem_cons.1 hx with rfl | hx
    · exact j2
    · exact i3 x hx
theorem gB_ok {l : List UInt8} {a : Nat} (h : (gB l a).e = 0) : (gB l a).q ≤ 400 ∧ (gB l a).g < 2 ^ 64 ∧ (gB l a).ps.length ≤ 400 ∧ (∀ x ∈ (gB l a).ps, x ≤ 599) ∧ (gB l a).p ≤ l.length ∧ l.take (gB l a).p = l.take a ++ blobI ((gB l a).q : Int) (gB l a).g (natsI (gB l a).ps) := by
  unfold gB at h ⊢
  dsimp only at h ⊢
  obtain ⟨r1, e1⟩ : ∃ r, r = tk1 l 400 (a, 0) := ⟨_, rfl⟩
  rw [← e1] at h ⊢
  obtain ⟨r2, e2⟩ : ∃ r, r = tk1 l 18446744073709551615 r1.2 := ⟨_, rfl⟩
  rw [← e2] at h ⊢
  obtain ⟨r3, e3⟩ : ∃ r, r = tk1 l 400 r2.2 := ⟨_, rfl⟩
  rw [← e3] at h ⊢
  obtain ⟨r4, e4⟩ : ∃ r, r = tkN l 599 r3.1 r3.2 := ⟨_, rfl⟩
  rw [← e4] at h ⊢
  by_cases hz : r4.2.2 ≠ 0
  · rw [if_pos hz] at h
    exact absurd h hz
  rw [if_neg hz]
  have h0 := Decidable.not_not.1 hz
  dsimp only
  have g3 : r3.2.2 = 0 := by
    by_cases c : r3.2.2 = 0
    · exact c
    · exfalso
      have key : ∀ (k : Nat) (s : Nat × Nat), s.2 ≠ 0 → (tkN l 599 k s).2.2 ≠ 0 := by
        intro k
        induction k with
        | zero => intro s hs; exact hs
        | succ k ih =>
          intro s hs
          rw [tkN]
          refine ih _ ?_
          unfold tk1
          rw [if_pos hs]
          exact hs
      exact key r3.1 r3.2 c (by rw [← e4]; exact h0)
  obtain ⟨c1, c2, c3, c4, c5⟩ := tk1_ok (l := l) (most := 400) (s := r2.2) (by rw [← e3]; exact g3)
  rw [← e3] at c2 c3 c4 c5
  obtain ⟨b1, b2, b3, b4, b5⟩ := tk1_ok (l := l) (most := 18446744073709551615) (s := r1.2) (by rw [← e2]; exact c1)
  rw [← e2] at b2 b3 b4 b5
  obtain ⟨a1, a2, a3, a4, a5⟩ := tk1_ok (l := l) (most := 400) (s := (a, 0)) (by rw [← e1]; exact b1)
  rw [← e1] at a2 a3 a4 a5
  obtain ⟨d1, d2, d3, d4, d5⟩ := tkN_ok (l := l) (most := 599) r3.1 r3.2 c4 (by rw [← e4]; exact h0)
  rw [← e4] at d2 d3 d4 d5
  refine ⟨a2, b3, by rw [d2]; exact c2, d3, d4, ?_⟩
  have ef : ((natsI r4.1).flatMap fun p => venc 9 p.toNat) = r4.1.flatMap (venc 9) := by
    rw [natsI, List.flatMap_map]
    rfl
  rw [d5, c5, b5, a5, blobI, ef, natsI_len, d2, Int.toNat_natCast]
  simp
theorem tkB_done {l : List UInt8} {s : Nat × Nat} (h : (tkB l s).2.2 = 0) : s.2 = 0 ∧ (gB l s.1).e = 0 ∧ tkB l s = (gB l s.1, ((gB l s.1).p, 0)) := by
  unfold tkB at h ⊢
  by_cases h1 : s.2 ≠ 0
  · rw [if_pos h1] at h
    exact absurd h h1
  rw [if_neg h1] at h ⊢
  by_cases h2 : (gB l s.1).e ≠ 0
  · rw [if_pos h2] at h
    exact absurd h h2
  rw [if_neg h2]
  exact ⟨Decidable.not_not.1 h1, Decidable.not_not.1 h2, rfl⟩
theorem tkC_ok {l : List UInt8} {a : ByteArray} {s : Nat × Nat} (h : (tkC l a s).2.2 = 0) :
    s.2 = 0 ∧ gtK (tkC l a s).1.key a = true ∧ (tkC l a s).1.key.size ≤ 16 ∧ okC (tkC l a s).1 = true ∧ (tkC l a s).1.g < 2 ^ 64 ∧ (tkC l a s).2.1 ≤ l.length ∧ l.take (tkC l a s).2.1 = l.take s.1 ++ chB (tkC l a s).1 := by
  unfold tkC at h ⊢
  dsimp only at h ⊢
  obtain ⟨k, hk⟩ : ∃ k, k = tkG (⟨#[]⟩ : ByteArray) (gKey l) (fun x => gtK x a) s := ⟨_, rfl⟩
  rw [← hk] at h ⊢
  obtain ⟨f, hf⟩ : ∃ f, f = tkG 0 (gFate l) (fun x => decide (x ≤ 1)) k.2 := ⟨_, rfl⟩
  rw [← hf] at h ⊢
  have hf0 : f.2.2 = 0 := by
    by_cases c : f.1 = 1
    · rw [if_pos c] at h
      exact h
    · rw [if_neg c] at h
      exact (tkB_done h).1
  obtain ⟨f1, f2, f3, f4⟩ := tkG_done (none := 0) (get := gFate l) (right := fun x => decide (x ≤ 1)) (s := k.2) (by rw [← hf]; exact hf0)
  rw [← hf] at f4
  obtain ⟨k1, k2, k3, k4⟩ := tkG_done (none := (⟨#[]⟩ : ByteArray)) (get := gKey l) (right := fun x => gtK x a) (s := s) (by rw [← hk]; exact f1)
  rw [← hk] at k4
  obtain ⟨l1, l2, l3⟩ := longR_seg (l := l) (a := s.1) k2
  have f3 : (getN16 l (k.2.1 : Int) 1).1 ≤ 1 := of_decide_eq_true f3
  obtain ⟨g1, g2⟩ := fate_seg (l := l) (a := k.2.1) f2 f3
  have hks : k.1 = bstr (longR l (s.1 : Int) 16).1 := by rw [k4]; rfl
  have hkp : k.2.1 = (longR l (s.1 : Int) 16).2.1 := by rw [k4]; rfl
  have hsz : k.1.size = (longR l (s.1 : Int) 16).1.length := by rw [hks, bstr_size]
  have hdt : k.1.data.toList = (longR l (s.1 : Int) 16).1 := by rw [hks, bstr_data]
  have hfp : f.2.1 = k.2.1 + 1 := by rw [f4]; rfl
  have hfv : f.1 = (getN16 l (k.2.1 : Int) 1).1 := by rw [f4]; rfl
  have hgt : gtK k.1 a = true := by rw [k4]; exact k3
  rw [← hkp, ← hsz, ← hdt] at l3
  by_cases c : f.1 = 1
  · rw [if_pos c] at h ⊢
    refine ⟨k1, hgt, by rw [hsz]; exact l1, by simp [okC], by simp, by rw [hfp]; exact g1, ?_⟩
    rw [hfp, g2, l3, ← hfv, c, chB]
    simp
  · rw [if_neg c] at h ⊢
    have c0 : f.1 = 0 := by rw [hfv] at c ⊢; omega
    obtain ⟨b1, b2, b3⟩ := tkB_done h
    obtain ⟨d1, d2, d3, d4, d5, d6⟩ := gB_ok b2
    rw [b3]
    dsimp only
    refine ⟨k1, hgt, by rw [hsz]; exact l1, ?_, d2, d5, ?_⟩
    · unfold okC
      rw [if_neg (by simp)]
      simp only [natsI_len, Bool.and_eq_true, Bool.not_eq_true', Bool.or_eq_false_iff, decide_eq_false_iff_not, List.any_eq_false]
      refine ⟨⟨by omega, by omega, by omega⟩, fun x hx => ?_⟩
      obtain ⟨y, hy, rfl⟩ := List.mem_map.1 hx
      have := d4 y hy
      simp
      omega
    · rw [d6, hfp, g2, l3, ← hfv, c0, chB]
      simp
theorem tkC_fault {l : List UInt8} {a : ByteArray} {s : Nat × Nat} (h : s.1 ≤ l.length) : (tkC l a s).2.1 ≤ l.length := by
  have hak : AtOk l (tkG (⟨#[]⟩ : ByteArray) (gKey l) (fun x => gtK x a) s).2 := tkG_at _ _ _ l (fun a _ => key_le l a) _ h
  have haf : AtOk l (tkG 0 (gFate l) (fun x => decide (x ≤ 1)) (tkG (⟨#[]⟩ : ByteArray) (gKey l) (fun x => gtK x a) s).2).2 := tkG_at _ _ _ l (fun a _ => fate_le l a) _ hak
  unfold tkC
  dsimp only
  split
  · exact haf
  · exact tkB_at l _ haf
theorem tkCs_ok {l : List UInt8} : ∀ (k : Nat) (a : ByteArray) (s : Nat × Nat), s.1 ≤ l.length → (tkCs l k a s).2.2 = 0 →
    s.2 = 0 ∧ (tkCs l k a s).1.length = k ∧ okCs a (tkCs l k a s).1 = true ∧ (∀ x ∈ (tkCs l k a s).1, x.g < 2 ^ 64) ∧ (tkCs l k a s).2.1 ≤ l.length ∧ l.take (tkCs l k a s).2.1 = l.take s.1 ++ (tkCs l k a s).1.flatMap chB
  | 0, a, s, hs, h => ⟨h, rfl, rfl, fun x hx => (by cases hx), hs, by simp [tkCs]⟩
  | k + 1, a, s, hs, h => by
    rw [tkCs] at h ⊢
    dsimp only at h ⊢
    obtain ⟨i1, i2, i3, i4, i5, i6⟩ := tkCs_ok k _ _ (tkC_fault hs) h
    obtain ⟨j1, j2, j3, j4, j5, j6, j7⟩ := tkC_ok i1
    refine ⟨j1, by rw [List.length_cons, i2], ?_, fun x hx => ?_, i5, by rw [i6, j7, List.flatMap_cons, List.append_assoc]⟩
    · rw [okCs, j2, j4, i3, decide_eq_true j3]
      rfl
    · rcases List.mem_cons.1 hx with rfl | hx
      · exact j5
      · exact i4 x hx
/-- What is read without a fault is the record's text. -/
theorem putR_get {l : List UInt8} (h : (getR17 l).2.2 = 0) : (getR17 l).1 < 2 ^ 64 ∧ okR (getR17 l).2.1 = true ∧ (∀ x ∈ (getR17 l).2.1, x.g < 2 ^ 64) ∧ putR (getR17 l).1 (getR17 l).2.1 = l := by
  unfold getR17 at h ⊢
  dsimp only at h ⊢
  obtain ⟨st, hst⟩ : ∃ k, k = tkG 0 (fun a => varR l ((a : Nat) : Int)) (fun _ => true) (0, 0) := ⟨_, rfl⟩
  rw [← hst] at h ⊢
  obtain ⟨n, hn⟩ : ∃ k, k = tkG 0 (fun a => varR l ((a : Nat) : Int)) (fun x => decide (x ≤ 16)) st.2 := ⟨_, rfl⟩
  rw [← hn] at h ⊢
  obtain ⟨r, hr⟩ : ∃ k, k = tkCs l n.1 ⟨#[]⟩ n.2 := ⟨_, rfl⟩
  rw [← hr] at h ⊢
  by_cases he : endE l r.2 ≠ 0
  · rw [if_pos he] at h
    exact absurd h he
  rw [if_neg he]
  have he := Decidable.not_not.1 he
  unfold endE at he
  by_cases hq : r.2.2 = 0 ∧ r.2.1 < l.length
  · rw [if_pos hq] at he
    exact absurd he (by decide)
  rw [if_neg hq] at he
  have hn1 : n.2.1 ≤ l.length := by
    rw [hn]
    refine tkG_at 0 _ _ l (fun a _ hh => var_le l a hh) st.2 ?_
    rw [hst]
    exact tkG_at 0 _ _ l (fun a _ hh => var_le l a hh) (0, 0) (Nat.zero_le _)
  obtain ⟨i1, i2, i3, i4, i5, i6⟩ := tkCs_ok (l := l) n.1 ⟨#[]⟩ n.2 hn1 (by rw [← hr]; exact he)
  rw [← hr] at i2 i3 i4 i5 i6
  obtain ⟨n1, n2, n3, n4⟩ := tkG_done (none := 0) (get := fun a => varR l ((a : Nat) : Int)) (right := fun x => decide (x ≤ 16)) (s := st.2) (by rw [← hn]; exact i1)
  obtain ⟨s1, s2, s3, s4⟩ := tkG_done (none := 0) (get := fun a => varR l ((a : Nat) : Int)) (right := fun _ => true) (s := (0, 0)) (by rw [← hst]; exact n1)
  obtain ⟨u1, u2, u3⟩ := varR_seg (l := l) (a := st.2.1) n2
  obtain ⟨v1, v2, v3⟩ := varR_seg (l := l) (a := 0) s2
  rw [← hn] at n4
  rw [← hst] at s4
  have e1 : st.1 = (varR l ((0 : Nat) : Int)).1 := by rw [s4]
  have e2 : st.2.1 = (varR l ((0 : Nat) : Int)).2.1 := by rw [s4]
  have e3 : n.1 = (varR l (st.2.1 : Int)).1 := by rw [n4]
  have e4 : n.2.1 = (varR l (st.2.1 : Int)).2.1 := by rw [n4]
  rw [← e3, ← e4] at u3
  rw [← e1, ← e2] at v3
  rw [← e3] at n3
  dsimp only
  refine ⟨by rw [e1]; exact v2, ?_, i4, ?_⟩
  · rw [okR, i3, i2, Bool.and_true]
    exact n3
  · have hend : r.2.1 = l.length := by
      rcases Nat.lt_or_ge r.2.1 l.length with hh | hh
      · exact absurd ⟨he, hh⟩ hq
      · omega
    have : l.take r.2.1 = l := by rw [hend, List.take_length]
    rw [putR, i2, ← List.nil_append (venc 9 st.1), ← List.take_zero (l := l), ← v3, ← u3, ← i6, this]
end Go.Proofs.YtpijfghklgmefaaDoor

/-
  Plain mathematics of layer 6: any k rows of a coder's factors take no data but nought to nought, so that they have an inverse. No program, no condition.
-/
import Derived.Test.YtgoomiimlfdcmaaGreatGh
import Derived.Test.YtgoomiimlfdcmaaGreatCad
namespace Go.Proofs.YtgoomiimlfdcmaaGreat
open Go.RowKit Go.Proofs

theorem ofNat_ne {a b : Nat} (ha : a < 256) (hb : b < 256) (h : a ≠ b) : UInt8.ofNat a ≠ UInt8.ofNat b := fun e => h (ofNat_inj ha hb e)
/-- Any k rows, of which no two are alike. -/
theorem any_inj {k : Nat} {l : Nat → Nat} (hk : k ≤ 256) (hl : ∀ a, a < k → l a < 256) (hd : ∀ i, i < k → ∀ j, j < i → l i ≠ l j) : Inj k (fun a j => facB k (l a) j) := by
  intro v hv j hj
  have hpf : PF k (fun z => xs k (fun j => gm (v j) (pr (fun j => UInt8.ofNat j) j k z))) := xs_pf k k _ (fun j hj => by
    have := pr_pf (fun j => UInt8.ofNat j) j k
    rw [if_pos hj] at this
    exact this.scale (v j))
  have hone : ∀ j, j < k → xs k (fun i => gm (v i) (pr (fun j => UInt8.ofNat j) i k (UInt8.ofNat j))) = gm (v j) (pr (fun j => UInt8.ofNat j) j k (UInt8.ofNat j)) := fun j hj =>
    xs_one j k hj (fun i hi hn => by rw [pr_at (fun j => UInt8.ofNat j) i (UInt8.ofNat j) k j hj (fun e => hn e.symm) rfl, gm_zero])
  have hz := hpf.roots (fun a => UInt8.ofNat (l a)) (fun i hi j hj => ofNat_ne (hl i hi) (hl j (by omega)) (hd i hi j hj)) (fun a ha => by
    have h0 : xs k (fun j => gm (facB k (l a) j) (v j)) = 0 := hv a ha
    show xs k (fun j => gm (v j) (pr (fun j => UInt8.ofNat j) j k (UInt8.ofNat (l a)))) = 0
    by_cases hla : l a < k
    · rw [hone (l a) hla]
      have h1 := xs_one (f := fun j => gm (facB k (l a) j) (v j)) (l a) k hla (fun i hi hn => by
        show gm (facB k (l a) i) (v i) = 0
        rw [facB, if_pos hla, if_neg (fun e => hn e.symm), zero_gm])
      rw [h0] at h1
      have h2 : gm (facB k (l a) (l a)) (v (l a)) = v (l a) := by rw [facB, if_pos hla, if_pos rfl, one_gm]
      rw [show v (l a) = 0 from by rw [← h2]; exact h1.symm, zero_gm]
    · have h1 := congrArg (gm (full (fun j => UInt8.ofNat j) k (UInt8.ofNat (l a)))) h0
      rw [gm_zero, gm_xs] at h1
      rw [← h1]
      apply xs_congr
      intro i hi
      have hne : UInt8.ofNat (l a) ^^^ UInt8.ofNat i ≠ 0 := fun e => ofNat_ne (hl a ha) (by omega) (show l a ≠ i by omega) (ux_eq e)
      show gm (v i) (pr (fun j => UInt8.ofNat j) i k (UInt8.ofNat (l a))) = gm (full (fun j => UInt8.ofNat j) k (UInt8.ofNat (l a))) (gm (facB k (l a) i) (v i))
      rw [facB, if_neg hla, pr_full (fun j => UInt8.ofNat j) i (UInt8.ofNat (l a)) k hi, ← gm_assoc, gm_comm (UInt8.ofNat (l a) ^^^ UInt8.ofNat i), gm_assoc (pr (fun j => UInt8.ofNat j) i k (UInt8.ofNat (l a))), gm_ginv _ hne, gm_one, gm_comm])
  have h2 := hz (UInt8.ofNat j)
  rw [hone j hj] at h2
  exact (gm_eq_zero h2).resolve_right (pr_ne (fun j => UInt8.ofNat j) j (UInt8.ofNat j) k (fun i hi hn => ofNat_ne (by omega) (by omega) (fun e => hn e.symm)))
/-- So they have an inverse, from both sides. -/
theorem any_inverse {k : Nat} {l : Nat → Nat} (hk : k ≤ 256) (hl : ∀ a, a < k → l a < 256) (hd : ∀ i, i < k → ∀ j, j < i → l i ≠ l j) : ∃ X : Mx, Alike k k (mm k X (fun a j => facB k (l a) j)) one ∧ Alike k k (mm k (fun a j => facB k (l a) j) X) one := by
  obtain ⟨X, hX⟩ := inj_right (any_inj hk hl hd)
  exact ⟨X, inverse_both hX, hX⟩
end Go.Proofs.YtgoomiimlfdcmaaGreat

/-
  Plain mathematics of layer 6: any k rows of a coder's factors take no data but nought to nought, so that they have an inverse. No program, no condition. And what goes with it below the laws of layer 13. No condition but what each theorem says.
-/
import Derived.Test.YtokbhgbajdomnaaGreatDoorGh
import Derived.Test.YtokbhgbajdomnaaGreatDoorHa
import Derived.Test.YtokbhgbajdomnaaGreatDoorGe
import Derived.BigQuiet
set_option linter.unusedVariables false
namespace Go.Proofs.YtokbhgbajdomnaaGreatDoor
section
open Go.RowKit Go.Proofs
theorem ofNat_ne {a b : Nat} (ha : a < 256) (hb : b < 256) (h : a ≠ b) : UInt8.ofNat a ≠ UInt8.ofNat b := fun e => h (ofNat_inj ha hb e)
theorem any_inj {k : Nat} {l : Nat → Nat} (hk : k ≤ 256) (hl : ∀ a, a < k → l a < 256) (hd : ∀ i, i < k → ∀ j, j < i → l i ≠ l j) : Inj k (fun a j => facB k (l a) j) := by
 intro v hv j hj
 have hpf : PF k (fun z => xs k (fun j => gm (v j) (pr (fun j => UInt8.ofNat j) j k z))) := xs_pf k k _ (fun j hj => by
  have := pr_pf (fun j => UInt8.ofNat j) j k
  rw [if_pos hj] at this
  exact this.scale (v j))
 have hone : ∀ j, j < k → xs k (fun i => gm (v i) (pr (fun j => UInt8.ofNat j) i k (UInt8.ofNat j))) = gm (v j) (pr (fun j => UInt8.ofNat j) j k (UInt8.ofNat j)) := fun j hj =>
  xs_one j k hj (fun i hi hn => by rw [pr_at (fun j => UInt8.ofNat j) i (UInt8.ofNat j) k j hj (fun e => hn e.symm) rfl, gm_zero])
 have hz := hpf.roots (fun a => UInt8.ofNat (l a)) (fun i hi j hj => ofNat_ne (hl i hi) (hl j (by omega)) (hd i hi j hj)) (fun a ha => by
  have h0 : xs k (fun j => gm (facB k (l a) j) (v j)) = 0 := hv a ha
  show xs k (fun j => gm (v j) (pr (fun j => UInt8.ofNat j) j k (UInt8.ofNat (l a)))) = 0
  by_cases hla : l a < k
  ·rw [hone (l a) hla]
   have h1 := xs_one (f := fun j => gm (facB k (l a) j) (v j)) (l a) k hla (fun i hi hn => by
    show gm (facB k (l a) i) (v i) = 0
    rw [facB, if_pos hla, if_neg (fun e => hn e.symm), zero_gm])
   rw [h0] at h1
   have h2 : gm (facB k (l a) (l a)) (v (l a)) = v (l a) := by rw [facB, if_pos hla, if_pos rfl, one_gm]
   rw [show v (l a) = 0 from by rw [← h2]; exact h1.symm, zero_gm]
  ·have h1 := congrArg (gm (fullC (fun j => UInt8.ofNat j) k (UInt8.ofNat (l a)))) h0
   rw [gm_zero, gm_xs] at h1
   rw [← h1]
   apply xs_congr
   intro i hi
   have hne : UInt8.ofNat (l a) ^^^ UInt8.ofNat i ≠ 0 := fun e => ofNat_ne (hl a ha) (by omega) (show l a ≠ i by omega) (ux_eq e)
   show gm (v i) (pr (fun j => UInt8.ofNat j) i k (UInt8.ofNat (l a))) = gm (fullC (fun j => UInt8.ofNat j) k (UInt8.ofNat (l a))) (gm (facB k (l a) i) (v i))
   rw [facB, if_neg hla, pr_full (fun j => UInt8.ofNat j) i (UInt8.ofNat (l a)) k hi, ← gm_assoc, gm_comm (UInt8.ofNat (l a) ^^^ UInt8.ofNat i), gm_assoc (pr (fun j => UInt8.ofNat j) i k (UInt8.ofNat (l a))), gm_ginv _ hne, gm_one, gm_comm])
 have h2 := hz (UInt8.ofNat j)
 rw [hone j hj] at h2
 exact (gm_eq_zero h2).resolve_right (pr_ne (fun j => UInt8.ofNat j) j (UInt8.ofNat j) k (fun i hi hn => ofNat_ne (by omega) (by omega) (fun e => hn e.symm)))
theorem any_inverse {k : Nat} {l : Nat → Nat} (hk : k ≤ 256) (hl : ∀ a, a < k → l a < 256) (hd : ∀ i, i < k → ∀ j, j < i → l i ≠ l j) : ∃ X : Mx, Alike k k (mm k X (fun a j => facB k (l a) j)) one ∧ Alike k k (mm k (fun a j => facB k (l a) j) X) one := by
 obtain ⟨X, hX⟩ := inj_right (any_inj hk hl hd)
 exact ⟨X, inverse_both hX, hX⟩
end
section
open Go.RowKit Go.Proofs
def Sol (k W : Nat) (X M : Mx) : Prop := ∀ a, a < k → ∀ p, p < W → xs k (fun b => gm (M a b) (X b p)) = M a (k + p)
end
section
open Go.RowKit Go.Proofs
end
section
open Go.RowKit Go.Proofs
section
variable {w w' : World} {g k W : Nat} {M : Mx}
end
end
section
open Go.RowKit Go.Proofs
def levelT (rs : List (List UInt8)) : Bool := decide (∀ a, a < (thereL rs rs.length).length → (rs.getD ((thereL rs rs.length).getD a 0) []).length = (rs.getD ((thereL rs rs.length).getD 0 0) []).length)
def rightX (k m : Nat) (rs : List (List UInt8)) : Int := if rs.length ≠ k + m then 2 else if levelT rs = false then 2 else if (thereL rs rs.length).length < k then 60 else 0
theorem thereL_lt {rs : List (List UInt8)} {j a : Nat} (h : a < (thereL rs j).length) : (thereL rs j).getD a 0 < j := by
 have hm : (thereL rs j)[a] ∈ (List.range j).filter (fun i => decide (0 < (rs.getD i []).length)) := List.getElem_mem h
 rw [List.mem_filter, List.mem_range] at hm
 rw [show (thereL rs j).getD a 0 = (thereL rs j)[a] from by simp [h]]
 exact hm.1
end
section
open Go.RowKit Go.Proofs
end
end Go.Proofs.YtokbhgbajdomnaaGreatDoor

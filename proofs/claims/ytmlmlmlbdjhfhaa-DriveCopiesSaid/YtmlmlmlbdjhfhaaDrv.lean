/-
  Package drive keeps the contracts that layer 9's laws are walked over ('DrvK'), for its own way of laying drives in memory ('Rp9'). No condition but bounds.
-/
import Derived.Test.YtmlmlmlbdjhfhaaDrn
import Derived.Test.YtmlmlmlbdjhfhaaDrt
import Derived.Test.YtmlmlmlbdjhfhaaDru
namespace Go.Proofs.Ytmlmlmlbdjhfhaa
open Go.RowKit Go.Proofs Go.Maps
set_option linter.unusedVariables false

theorem RetSt9.mut {w w' : World} {S : Nat → Prop} {D Bd cd M : Nat} {y : Dv} {Ac : Option Addr} {v : Value} {e : Ending} (hS : ∀ b, S b ↔ Blk9 D Bd M Ac b) (h : RetSt9 y D Bd cd M Ac v w e w') : e = .returned v ∧ MutD Rp9 S D y w w' := by
  obtain ⟨he, hf, cc', Ac', ds', hq, hb⟩ := h
  exact ⟨he, Blk9 D Bd M Ac', ⟨Bd, cd, Ac', cc', M, ds', hq, fun _ => Iff.rfl⟩, hf.mono fun b h => (hS b).2 h, fun b h => (hb b h).imp (hS b).2 id⟩
theorem drvK : DrvK Rp9 where
  fr := by
    rintro w w' S T D x ⟨Bd, cd, Ac, cc, M, ds, hq, hS⟩ hf hT
    exact ⟨Bd, cd, Ac, cc, M, ds, hq.fr hf (fun b hb => hT b ((hS b).2 hb)), hS⟩
  old := by
    rintro w S D x ⟨Bd, cd, Ac, cc, M, ds, hq, hS⟩ b hb
    exact hq.lt ((hS b).1 hb)
  ok := by
    rintro w S D x ⟨Bd, cd, Ac, cc, M, ds, hq, hS⟩
    exact hq.ok
  new_yes := by
    intro n w h1 h2
    refine (dvnew_yes n w h1 h2).mono ?_
    rintro e w' ⟨D, Bd, cd, M, ds, rfl, hq, hb, g1, g2, g3⟩
    refine ⟨D, Blk9 D Bd M none, rfl, ⟨Bd, cd, none, 0, M, ds, hq, fun _ => Iff.rfl⟩, hb, fun b h => ?_⟩
    rcases h with h | h | h | ⟨o, h⟩
    · omega
    · omega
    · omega
    · cases h
  new_no := fun z w h1 h2 h => dvnew_no z w h1 h2 h
  sectors := by
    rintro w S D x ⟨Bd, cd, Ac, cc, M, ds, hq, hS⟩
    exact (dvsectors_any hq).mono fun e w' h => ⟨h.1, by rw [h.2]; exact Below.refl _ _⟩
  waits := by
    rintro w S D x ⟨Bd, cd, Ac, cc, M, ds, hq, hS⟩
    exact (dvwaits_any hq).mono fun e w' h => ⟨h.1, by rw [h.2]; exact Below.refl _ _⟩
  dead := by
    rintro w S D x ⟨Bd, cd, Ac, cc, M, ds, hq, hS⟩
    exact (dvdead_any hq).mono fun e w' h => ⟨h.1, by rw [h.2]; exact Below.refl _ _⟩
  read := by
    rintro w S D x z h1 h2 hw ⟨Bd, cd, Ac, cc, M, ds, hq, hS⟩
    exact dvread_any z h1 h2 hw hq
  write := by
    rintro w S D x z A n c l h1 h2 hw ⟨Bd, cd, Ac, cc, M, ds, hq, hS⟩ hs
    exact (dvwrite_any z A n c l h1 h2 hw hq hs).mono fun e w' h => h.mut hS
  flush := by
    rintro w S D x hw ⟨Bd, cd, Ac, cc, M, ds, hq, hS⟩
    exact (dvflush_any hw hq).mono fun e w' h => h.mut hS
  crash := by
    rintro w S D x A n c ks hw ⟨Bd, cd, Ac, cc, M, ds, hq, hS⟩ hs hA
    exact (dvcrash_any A n c ks hw hq hs (fun b o hn he hb => hA b o hn he ((hS b).2 hb))).mono fun e w' h => h.mut hS
  fail := by
    rintro w S D x ⟨Bd, cd, Ac, cc, M, ds, hq, hS⟩
    refine (dvfail_any hq).mono ?_
    rintro e w' ⟨Bd', cd', M', ds', rfl, hq', hf, g1, g2⟩
    refine ⟨rfl, Blk9 D Bd' M' none, ⟨Bd', cd', none, 0, M', ds', hq', fun _ => Iff.rfl⟩, hf.mono fun b h => (hS b).2 (.inl h), fun b h => ?_⟩
    rcases h with h | h | h | ⟨o, h⟩
    · exact .inl ((hS b).2 (.inl h))
    · exact .inr (by omega)
    · exact .inr (by omega)
    · cases h
  replace := by
    rintro w S D x ⟨Bd, cd, Ac, cc, M, ds, hq, hS⟩
    refine (dvreplace_any hq).mono ?_
    rintro e w' ⟨Bd', cd', M', ds', rfl, hq', hf, g1, g2⟩
    refine ⟨rfl, Blk9 D Bd' M' none, ⟨Bd', cd', none, 0, M', ds', hq', fun _ => Iff.rfl⟩, hf.mono fun b h => (hS b).2 (.inl h), fun b h => ?_⟩
    rcases h with h | h | h | ⟨o, h⟩
    · exact .inl ((hS b).2 (.inl h))
    · exact .inr (by omega)
    · exact .inr (by omega)
    · cases h
  rot := by
    rintro w S D x z off mask h1 h2 h3 h4 h5 ⟨Bd, cd, Ac, cc, M, ds, hq, hS⟩
    exact (dvrot_any z off mask h1 h2 h3 h4 h5 hq).mono fun e w' h => h.mut hS
  rotten := by
    rintro w S D x z h1 h2 ⟨Bd, cd, Ac, cc, M, ds, hq, hS⟩
    exact (dvrotten_any z h1 h2 hq).mono fun e w' h => ⟨h.1, by rw [h.2]; exact Below.refl _ _⟩
  stored := by
    rintro w S D x z h1 h2 ⟨Bd, cd, Ac, cc, M, ds, hq, hS⟩
    exact dvstored_any z h1 h2 hq
  copy := by
    rintro w S D x hw ⟨Bd, cd, Ac, cc, M, ds, hq, hS⟩
    refine (dvcopy_any hw hq).mono ?_
    rintro e w' ⟨D', Bd', cd', Ac', cc', M', ds', rfl, hq', hb, hg⟩
    exact ⟨D', Blk9 D' Bd' M' Ac', rfl, ⟨Bd', cd', Ac', cc', M', ds', hq', fun _ => Iff.rfl⟩, hb, hg⟩
end Go.Proofs.Ytmlmlmlbdjhfhaa

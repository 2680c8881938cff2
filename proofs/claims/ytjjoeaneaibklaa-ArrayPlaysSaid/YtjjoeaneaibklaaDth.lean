/-
  ArrayRows as plain data (layer 10): drives as new or dead, one sector of each written, stored or kept. No program, no condition.
-/
import Derived.Test.YtjjoeaneaibklaaDta
namespace Go.Proofs.Ytjjoeaneaibklaa
open Go.RowKit Go.Proofs
set_option linter.unusedVariables false

section
variable {xs : List Dv} {n m t i a : Nat} {z : Int} {x : Dv} {c : UInt8} {F : Nat → Dv → Dv}
theorem upTo_full (h : xs[i]? = some x) (hi : i < t) : (upTo F xs t)[i]? = some (F i x) := by rw [upTo_at h, if_pos hi]
theorem full_pos (c : UInt8) : 0 < (full c).length := by rw [full_length]; decide
/-- Each drive is as new, or dead. -/
def NewDead (m : Nat) (xs : List Dv) : Prop := ∀ (i : Nat) (x : Dv), xs[i]? = some x → x = Dv.new m ∨ x = (Dv.new m).fail
theorem nd_zero : NewDead m (List.replicate n (Dv.new m)) := fun i x h => by
  rw [List.getElem?_replicate] at h
  split at h
  · injection h with h
    exact .inl h.symm
  · cases h
theorem fail_fail : (Dv.new m).fail.fail = (Dv.new m).fail := by simp [Dv.fail, Dv.n]
theorem NewDead.fail (h : NewDead m xs) (z : Int) : NewDead m (onD xs z (fun x => x.fail)) := by
  rcases ofD_cases xs z with ⟨i, x, rfl, hx⟩ | hn
  · rw [onD_yes hx]
    intro j y hy
    rw [List.getElem?_set] at hy
    split at hy
    · split at hy
      · injection hy with hy
        rw [← hy]
        rcases h i x hx with e | e
        · rw [e]; exact .inr rfl
        · rw [e, fail_fail]; exact .inr rfl
      · cases hy
    · exact h j y hy
  · rw [onD_no hn]
    exact h
/-- The rows that are put: a sector of one byte for each drive. -/
def aR (c : UInt8) (n : Nat) : List (List UInt8) := (List.range n).map fun d => full (c + UInt8.ofNat d)
def aK (n : Nat) : List (List Bool) := List.replicate n [true]
theorem aR_at (h : i < n) : (aR c n)[i]? = some (full (c + UInt8.ofNat i)) := by simp [aR, h]
theorem aR_len : (aR c n).length = n := by simp [aR]
theorem aR_next : aR c (t + 1) = aR c t ++ [full (c + UInt8.ofNat t)] := by rw [aR, List.range_succ, List.map_append]; rfl
theorem aK_at (h : i < n) : (aK n)[i]? = some [true] := by simp [aK, h]
theorem aK_next : aK (t + 1) = aK t ++ [[true]] := by rw [aK, List.replicate_succ']; rfl
/-- A new drive whose sector is written. -/
theorem new_has (h : a < m) : (Dv.new m).has (a : Int) := ⟨by omega, by rw [Dv.new_n]; omega⟩
theorem wnew (h : a < m) (c : UInt8) : (Dv.new m).write (a : Int) (full c) = ⟨(Dv.new m).st, (Dv.new m).rot, [(a, full c)], false⟩ := by
  rw [Dv.write_yes rfl (new_has h) (full_length c), Int.toNat_natCast]
  rfl
theorem wnew_look (h : a < m) (c : UInt8) : ((Dv.new m).write (a : Int) (full c)).look a = full c := by
  rw [Dv.look_write rfl (new_has h) (full_length c), if_pos (by omega)]
theorem wnew_n (h : a < m) (c : UInt8) : ((Dv.new m).write (a : Int) (full c)).n = m := by
  rw [wnew h]
  exact Dv.new_n m
theorem wnew_gone (h : a < m) (c : UInt8) : ((Dv.new m).write (a : Int) (full c)).gone = false := by rw [wnew h]
theorem wnew_ok (c : UInt8) : ((Dv.new m).write (a : Int) (full c)).Ok := (Dv.new_ok m).write _ _
/-- What becomes of it, stored and behind a crash; and behind a crash of which it is kept. -/
def finA (a : Nat) (c : UInt8) (x : Dv) : Dv := ((x.write (a : Int) (full c)).flush1).crash []
def finB (a : Nat) (c : UInt8) (x : Dv) : Dv := (x.write (a : Int) (full c)).crash [true]
theorem kept_none (ks : List Bool) : Dv.kept ([] : List (Nat × List UInt8)) ks = [] := by cases ks <;> rfl
theorem finA_new (h : a < m) (c : UInt8) : (finA a c (Dv.new m)).gone = false ∧ (finA a c (Dv.new m)).readL (a : Int) = full c := by
  have hg := wnew_gone h c
  have hf : ((Dv.new m).write (a : Int) (full c)).flush1 = ((Dv.new m).write (a : Int) (full c)).flush := by unfold Dv.flush1; rw [if_neg (by rw [hg]; decide)]
  have hfg : ((Dv.new m).write (a : Int) (full c)).flush.gone = false := by rw [Dv.flush_gone, hg]
  have hfn : ((Dv.new m).write (a : Int) (full c)).flush.n = m := by rw [Dv.flush_n, wnew_n h]
  have hgone : (finA a c (Dv.new m)).gone = false := by rw [finA, hf, Dv.crash_gone, hfg]
  refine ⟨hgone, ?_⟩
  rw [Dv.readL_yes hgone ⟨by omega, by rw [finA, hf, Dv.crash_n, hfn]; omega⟩, Int.toNat_natCast, finA, hf, Dv.crash_look (wnew_ok c).flush hfg [] (by rw [hfn]; exact h), Dv.flush_wait, kept_none]
  have := Dv.flush_look (wnew_ok c) hg (i := a) (by rw [wnew_n h]; exact h)
  rw [wnew_look h] at this
  exact this
theorem finB_new (h : a < m) (c : UInt8) : (finB a c (Dv.new m)).gone = false ∧ (finB a c (Dv.new m)).readL (a : Int) = full c := by
  have hg := wnew_gone h c
  have hgone : (finB a c (Dv.new m)).gone = false := by rw [finB, Dv.crash_gone, hg]
  refine ⟨hgone, ?_⟩
  rw [Dv.readL_yes hgone ⟨by omega, by rw [finB, Dv.crash_n, wnew_n h]; omega⟩, Int.toNat_natCast, finB, Dv.crash_look (wnew_ok c) hg [true] (by rw [wnew_n h]; exact h), wnew h]
  show (Dv.lastW (Dv.kept [(a, full c)] [true]) a).getD _ = _
  rw [Dv.kept_one]
  show ((Dv.lastW [(a, full c)] a)).getD _ = _
  simp [Dv.lastW]
theorem gone_readL {x : Dv} (h : x.gone = true) (z : Int) : x.readL z = [] := by rw [Dv.readL, if_pos h]
theorem fin_dead (c : UInt8) : (finA a c (Dv.new m).fail).gone = true ∧ (finB a c (Dv.new m).fail).gone = true := by
  have hw : (Dv.new m).fail.write (a : Int) (full c) = (Dv.new m).fail := Dv.dead_write _ _ _
  refine ⟨?_, ?_⟩
  · rw [finA, hw, Dv.crash_gone]; rfl
  · rw [finB, hw, Dv.crash_gone]; rfl
theorem nd_gone (h : NewDead m xs) (hx : xs[i]? = some x) (ha : a < m) (c : UInt8) : (finA a c x).gone = x.gone ∧ (x.gone = false → (finA a c x).readL (a : Int) = full c ∧ (finB a c x).readL (a : Int) = full c) ∧ (x.gone = true → (finA a c x).readL (a : Int) = [] ∧ (finB a c x).readL (a : Int) = []) := by
  rcases h i x hx with e | e
  · rw [e]
    refine ⟨(finA_new ha c).1, fun _ => ⟨(finA_new ha c).2, (finB_new ha c).2⟩, fun q => by cases q⟩
  · rw [e]
    refine ⟨(fin_dead c).1, (fun q => by cases q), fun _ => ⟨gone_readL (fin_dead c).1 _, gone_readL (fin_dead c).2 _⟩⟩
theorem nd_writeX (h : NewDead m xs) (hx : xs[i]? = some x) (ha : a < m) (c : UInt8) : (x.writeX (a : Int) (full c) = 0 ↔ x.gone = false) := by
  rcases h i x hx with e | e
  · rw [e, Dv.writeX_yes rfl (new_has ha) (full_length c)]
    exact ⟨fun _ => rfl, fun _ => rfl⟩
  · rw [e, Dv.dead_writeX]
    exact ⟨fun q => absurd q (by decide), fun q => by cases q⟩
theorem nd_wgone (h : NewDead m xs) (hx : xs[i]? = some x) (ha : a < m) (c : UInt8) : (x.write (a : Int) (full c)).gone = x.gone := by
  rcases h i x hx with e | e
  · rw [e]; exact wnew_gone ha c
  · rw [e, Dv.dead_write]
theorem putF_aR (h : i < n) : putF (aR c n) z i x = x.write z (full (c + UInt8.ofNat i)) := putF_yes (aR_at h) (full_pos _)
/-- The state behind PutRow. -/
theorem put_at (hx : xs[i]? = some x) (hl : xs.length = n) : (putS xs (aR c n) z n)[i]? = some (x.write z (full (c + UInt8.ofNat i))) := by
  have hi := get_lt hx
  rw [putS, upTo_full hx (by omega), putF_aR (by omega)]
theorem put_alive (h : NewDead m xs) (ha : a < m) (hl : xs.length = n) : ∀ t, t ≤ n → putN xs (aR c n) (a : Int) t = aliveN xs t
  | 0, _ => by simp [putN, putA, aliveN, goneA]
  | t + 1, ht => by
    have hx : xs[t]? = some (xs[t]'(by omega)) := List.getElem?_eq_getElem _
    rw [putN_next hx (aR_at (by omega)), aliveN_next hx, put_alive h ha hl t (by omega)]
    have := nd_writeX h hx ha (c + UInt8.ofNat t)
    congr 1
    by_cases q : xs[t].gone = false
    · rw [if_pos ⟨full_pos _, this.2 q⟩, if_pos q]
    · rw [if_neg (fun p => q (this.1 p.2)), if_neg q]
theorem flush_alive (h : NewDead m xs) (ha : a < m) (hl : xs.length = n) : ∀ t, t ≤ n → flushN (putS xs (aR c n) (a : Int) n) t = aliveN xs t
  | 0, _ => by simp [flushN, flushA, aliveN, goneA]
  | t + 1, ht => by
    have hx : xs[t]? = some (xs[t]'(by omega)) := List.getElem?_eq_getElem _
    rw [flushN_next (put_at hx hl), aliveN_next hx, flush_alive h ha hl t (by omega)]
    congr 1
    have := nd_wgone h hx ha (c + UInt8.ofNat t)
    by_cases q : xs[t].gone = false
    · rw [if_pos (by rw [Dv.flushX, this, q]; rfl), if_pos q]
    · rw [if_neg (by rw [Dv.flushX, this]; simp [q]), if_neg q]
theorem put_len : (putS xs (aR c n) z t).length = xs.length := upTo_len
/-- The ends. -/
def endA (xs : List Dv) (c : UInt8) (n : Nat) (z : Int) : List Dv := crashS (flushS (putS xs (aR c n) z n) n) [] n
def endB (xs : List Dv) (c : UInt8) (n : Nat) (z : Int) : List Dv := crashS (putS xs (aR c n) z n) (aK n) n
theorem endA_at (hx : xs[i]? = some x) (hl : xs.length = n) : (endA xs c n (a : Int))[i]? = some (finA a (c + UInt8.ofNat i) x) := by
  have hi := get_lt hx
  rw [endA, crashS, upTo_full (x := ((x.write (a : Int) (full (c + UInt8.ofNat i))).flush1)) ?_ (by omega)]
  · rfl
  · rw [flushS, upTo_full (put_at hx hl) (by omega)]
theorem endB_at (hx : xs[i]? = some x) (hl : xs.length = n) : (endB xs c n (a : Int))[i]? = some (finB a (c + UInt8.ofNat i) x) := by
  have hi := get_lt hx
  rw [endB, crashS, upTo_full (put_at hx hl) (by omega), getD_at (aK_at (by omega))]
  rfl
theorem alive_cap (xs : List Dv) (t : Nat) : aliveN xs t ≤ t := Nat.le_trans List.count_le_length (by rw [goneA, List.length_map, List.length_take]; omega)
/-- How many writes wait. -/
theorem nd_wait (h : NewDead m xs) (hx : xs[i]? = some x) : x.wait = [] := by
  rcases h i x hx with e | e <;> (rw [e]; rfl)
theorem write_wait (x : Dv) (z : Int) (l : List UInt8) (k : Nat) (h : x.wait.length ≤ k) : (x.write z l).wait.length ≤ k + 1 := by
  unfold Dv.write
  split
  · omega
  · split
    · simp; omega
    · omega
theorem flush_wait1 (x : Dv) (k : Nat) (h : x.wait.length ≤ k) : x.flush1.wait.length ≤ k := by
  unfold Dv.flush1
  split
  · exact h
  · rw [Dv.flush_wait]; simp
theorem crash_wait (x : Dv) (ks : List Bool) : (x.crash ks).wait = [] := rfl
end
end Go.Proofs.Ytjjoeaneaibklaa

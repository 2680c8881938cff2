/-
  Plain: what GetRecord answers of what PutRecord answers. No program, no condition.
-/
import Derived.Test.YtpijfghklgmefaaDoorFro
namespace Go.Proofs.YtpijfghklgmefaaDoor
set_option linter.unusedVariables false
set_option maxRecDepth 20000

theorem longR_put17 (p r t : List UInt8) (m : Int) (hm : (t.length : Int) ≤ m) (h : t.length < 2 ^ 63) : longR (p ++ (venc 9 t.length ++ t) ++ r) (p.length : Nat) m = (t, p.length + (venc 9 t.length ++ t).length, 0) := by
  have hv := varR_venc p (t ++ r) t.length (by omega)
  have e : p ++ (venc 9 t.length ++ t) ++ r = p ++ venc 9 t.length ++ (t ++ r) := by simp
  unfold longR
  rw [e, hv]
  rw [if_neg (by simp), if_neg (by show ¬ max m 0 < ((t.length : Nat) : Int); omega), if_neg (by simp; omega)]
  have hd : (p ++ venc 9 t.length ++ (t ++ r)).drop (p.length + (venc 9 t.length).length) = t ++ r := by
    have h := List.drop_left (l₁ := p ++ venc 9 t.length) (l₂ := t ++ r)
    rwa [List.length_append] at h
  show ((List.drop (p.length + (venc 9 t.length).length) _).take t.length, _, _) = _
  rw [hd, List.take_left, List.length_append, Nat.add_assoc]
theorem tkG_num (p r : List UInt8) (n : Nat) (hn : n < 2 ^ 64) (right : Nat → Bool) (hr : right n = true) : tkG 0 (fun a => varR (p ++ venc 9 n ++ r) ((a : Nat) : Int)) right (p.length, 0) = (n, ((p ++ venc 9 n).length, 0)) := by
  have h := varR_venc p r n hn
  obtain ⟨L, hL⟩ : ∃ L, L = p ++ venc 9 n ++ r := ⟨_, rfl⟩
  rw [← hL] at h ⊢
  unfold tkG
  simp only [h]
  rw [if_neg (by simp), if_neg (by simp), if_neg (by rw [hr]; simp), List.length_append]
theorem tkG_key (p r : List UInt8) (k : ByteArray) (hk : k.size ≤ 16) (right : ByteArray → Bool) (hr : right k = true) : tkG ⟨#[]⟩ (gKey (p ++ (venc 9 k.size ++ k.data.toList) ++ r)) right (p.length, 0) = (k, ((p ++ (venc 9 k.size ++ k.data.toList)).length, 0)) := by
  have hs : k.data.toList.length = k.size := rfl
  have h := longR_put17 p r k.data.toList 16 (by omega) (by omega)
  rw [hs] at h
  have hb : bstr k.data.toList = k := rfl
  obtain ⟨L, hL⟩ : ∃ L, L = p ++ (venc 9 k.size ++ k.data.toList) ++ r := ⟨_, rfl⟩
  rw [← hL] at h ⊢
  unfold tkG gKey
  simp only [h, hb]
  rw [if_neg (by simp), if_neg (by simp), if_neg (by rw [hr]; simp), ← List.length_append]
theorem tkG_fate (p r : List UInt8) (n : Nat) (hn : n ≤ 1) : tkG 0 (gFate (p ++ [UInt8.ofNat n] ++ r)) (fun x => decide (x ≤ 1)) (p.length, 0) = (n, ((p ++ [UInt8.ofNat n]).length, 0)) := by
  have h := getN16_le p r 1 n (by omega) (by omega)
  have e : le 1 n = [UInt8.ofNat n] := by
    rcases (show n = 0 ∨ n = 1 by omega) with rfl | rfl <;> rfl
  rw [e, Nat.mod_eq_of_lt (by omega)] at h
  have h : getN16 (p ++ [UInt8.ofNat n] ++ r) ((p.length : Nat) : Int) 1 = (n, 0) := h
  unfold tkG gFate
  simp only [h]
  simp [hn]
theorem tk1_put (p r : List UInt8) (n most : Nat) (hn : n < 2 ^ 64) (hm : n ≤ most) : tk1 (p ++ venc 9 n ++ r) most (p.length, 0) = (n, ((p ++ venc 9 n).length, 0)) := by
  unfold tk1
  simp only [varR_venc p r n hn]
  rw [if_neg (by simp), if_neg (by simp), if_neg (by omega), List.length_append]
theorem tkN_put (r : List UInt8) : ∀ (ps : List Int) (p : List UInt8), (∀ x ∈ ps, 0 ≤ x ∧ x ≤ 599) → tkN (p ++ (ps.flatMap fun x => venc 9 x.toNat) ++ r) 599 ps.length (p.length, 0) = (ps.map Int.toNat, ((p ++ (ps.flatMap fun x => venc 9 x.toNat)).length, 0))
  | [], p, _ => by simp [tkN]
  | x :: ps, p, h => by
    have hx := h x (List.mem_cons_self ..)
    have h1 := tk1_put p ((ps.flatMap fun x => venc 9 x.toNat) ++ r) x.toNat 599 (by omega) (by omega)
    have h2 := tkN_put r ps (p ++ venc 9 x.toNat) (fun y hy => h y (List.mem_cons_of_mem _ hy))
    have e : p ++ ((x :: ps).flatMap fun x => venc 9 x.toNat) ++ r = p ++ venc 9 x.toNat ++ ((ps.flatMap fun x => venc 9 x.toNat) ++ r) := by simp
    have e2 : p ++ ((x :: ps).flatMap fun x => venc 9 x.toNat) = p ++ venc 9 x.toNat ++ (ps.flatMap fun x => venc 9 x.toNat) := by simp
    rw [List.length_cons, tkN, e, h1]
    dsimp only
    rw [← List.append_assoc, h2, e2]
    rfl
theorem gB_put (p r : List UInt8) (q : Int) (g : Nat) (ps : List Int) (hq : 0 ≤ q ∧ q ≤ 400) (hg : g < 2 ^ 64) (hl : ps.length ≤ 400) (hp : ∀ x ∈ ps, 0 ≤ x ∧ x ≤ 599) : gB (p ++ blobI q g ps ++ r) p.length = ⟨q.toNat, g, ps.map Int.toNat, (p ++ blobI q g ps).length, 0⟩ := by
  obtain ⟨t, ht⟩ : ∃ t, t = ps.flatMap fun x => venc 9 x.toNat := ⟨_, rfl⟩
  have h1 := tk1_put p (venc 9 g ++ venc 9 ps.length ++ t ++ r) q.toNat 400 (by omega) (by omega)
  have h2 := tk1_put (p ++ venc 9 q.toNat) (venc 9 ps.length ++ t ++ r) g 18446744073709551615 hg (by omega)
  have h3 := tk1_put (p ++ venc 9 q.toNat ++ venc 9 g) (t ++ r) ps.length 400 (by omega) hl
  have h4 := tkN_put r ps (p ++ venc 9 q.toNat ++ venc 9 g ++ venc 9 ps.length) hp
  rw [← ht] at h4
  have e : p ++ blobI q g ps ++ r = p ++ venc 9 q.toNat ++ venc 9 g ++ venc 9 ps.length ++ t ++ r := by rw [ht]; simp [blobI]
  have e0 : p ++ blobI q g ps = p ++ venc 9 q.toNat ++ venc 9 g ++ venc 9 ps.length ++ t := by rw [ht]; simp [blobI]
  have e1 : p ++ venc 9 q.toNat ++ (venc 9 g ++ venc 9 ps.length ++ t ++ r) = p ++ venc 9 q.toNat ++ venc 9 g ++ venc 9 ps.length ++ t ++ r := by simp
  have e2 : p ++ venc 9 q.toNat ++ venc 9 g ++ (venc 9 ps.length ++ t ++ r) = p ++ venc 9 q.toNat ++ venc 9 g ++ venc 9 ps.length ++ t ++ r := by simp
  have e3 : p ++ venc 9 q.toNat ++ venc 9 g ++ venc 9 ps.length ++ (t ++ r) = p ++ venc 9 q.toNat ++ venc 9 g ++ venc 9 ps.length ++ t ++ r := by simp
  rw [e1] at h1
  rw [e2] at h2
  rw [e3] at h3
  rw [e, e0]
  unfold gB
  simp only [h1, h2, h3, h4]
  simp
theorem nats_back (ps : List Int) (h : ∀ x ∈ ps, 0 ≤ x ∧ x ≤ 599) : natsI (ps.map Int.toNat) = ps := by
  rw [natsI, List.map_map]
  have : ∀ x ∈ ps, ((fun (n : Nat) => (n : Int)) ∘ Int.toNat) x = x := fun x hx => by
    have := h x hx
    show ((x.toNat : Nat) : Int) = x
    omega
  rw [List.map_congr_left this, List.map_id']
theorem okC_parts {x : ChF} (h : okC x = true) (hd : x.dead = false) : (0 ≤ x.q ∧ x.q ≤ 400) ∧ x.ps.length ≤ 400 ∧ ∀ p ∈ x.ps, 0 ≤ p ∧ p ≤ 599 := by
  unfold okC at h
  rw [hd, if_neg (by simp), Bool.and_eq_true, Bool.not_eq_true', Bool.not_eq_true', Bool.or_eq_false_iff, Bool.or_eq_false_iff] at h
  obtain ⟨⟨h1, h2, h3⟩, h4⟩ := h
  have h1 := of_decide_eq_false h1
  have h2 := of_decide_eq_false h2
  have h3 := of_decide_eq_false h3
  refine ⟨⟨by omega, by omega⟩, by omega, fun p hp => ?_⟩
  have h5 := List.any_eq_false.1 h4 p hp
  have h6 : (decide (p < 0) || decide (599 < p)) = false := by simpa using h5
  rw [Bool.or_eq_false_iff] at h6
  have h7 := of_decide_eq_false h6.1
  have h8 := of_decide_eq_false h6.2
  omega
theorem okC_deadp {x : ChF} (h : okC x = true) (hd : x.dead = true) : x = ⟨x.key, true, [], 0, 0⟩ := by
  unfold okC at h
  rw [hd, if_pos rfl, Bool.and_eq_true, Bool.and_eq_true] at h
  obtain ⟨h1, h2, h3⟩ := h
  have h1 := of_decide_eq_true h1
  have h2 := of_decide_eq_true h2
  have h3 := List.eq_nil_of_length_eq_zero (of_decide_eq_true h3)
  obtain ⟨k, d, ps, g, q⟩ := x
  subst hd h1 h2 h3
  rfl
theorem tkC_put (p r : List UInt8) (a : ByteArray) (x : ChF) (hk : gtK x.key a = true) (h16 : x.key.size ≤ 16) (hx : okC x = true) (hg : x.g < 2 ^ 64) : tkC (p ++ chB x ++ r) a (p.length, 0) = (x, ((p ++ chB x).length, 0)) := by
  obtain ⟨K, hK⟩ : ∃ K, K = venc 9 x.key.size ++ x.key.data.toList := ⟨_, rfl⟩
  cases hd : x.dead
  · obtain ⟨h1, h2, h3⟩ := okC_parts hx hd
    have k1 := tkG_key p ([UInt8.ofNat 0] ++ blobI x.q x.g x.ps ++ r) x.key h16 (fun y => gtK y a) hk
    have k2 := tkG_fate (p ++ K) (blobI x.q x.g x.ps ++ r) 0 (by omega)
    have k3 := gB_put (p ++ K ++ [UInt8.ofNat 0]) r x.q x.g x.ps h1 hg h2 h3
    rw [← hK] at k1
    have e : p ++ chB x ++ r = p ++ K ++ [UInt8.ofNat 0] ++ blobI x.q x.g x.ps ++ r := by rw [chB, ← hK, hd]; simp
    have e1 : p ++ K ++ ([UInt8.ofNat 0] ++ blobI x.q x.g x.ps ++ r) = p ++ K ++ [UInt8.ofNat 0] ++ blobI x.q x.g x.ps ++ r := by simp
    have e2 : p ++ K ++ [UInt8.ofNat 0] ++ (blobI x.q x.g x.ps ++ r) = p ++ K ++ [UInt8.ofNat 0] ++ blobI x.q x.g x.ps ++ r := by simp
    have e3 : p ++ chB x = p ++ K ++ [UInt8.ofNat 0] ++ blobI x.q x.g x.ps := by rw [chB, ← hK, hd]; simp
    rw [e1] at k1
    rw [e2] at k2
    rw [e, e3]
    obtain ⟨L, hL⟩ : ∃ L, L = p ++ K ++ [UInt8.ofNat 0] ++ blobI x.q x.g x.ps ++ r := ⟨_, rfl⟩
    obtain ⟨E, hE⟩ : ∃ E, E = (p ++ K ++ [UInt8.ofNat 0] ++ blobI x.q x.g x.ps).length := ⟨_, rfl⟩
    rw [← hL] at k1 k2 k3 ⊢
    rw [← hE] at k3 ⊢
    have k4 : tkB L ((p ++ K ++ [UInt8.ofNat 0]).length, 0) = (⟨x.q.toNat, x.g, x.ps.map Int.toNat, E, 0⟩, (E, 0)) := by
      unfold tkB
      simp only [k3]
      rw [if_neg (by simp), if_neg (by simp)]
    unfold tkC
    simp only [k1, k2, k4]
    rw [if_neg (by simp), nats_back x.ps h3]
    have hq : ((x.q.toNat : Nat) : Int) = x.q := by omega
    simp only [hq]
    obtain ⟨k, d, ps, g, q⟩ := x
    cases hd
    rfl
  · have hz := okC_deadp hx hd
    have k1 := tkG_key p ([UInt8.ofNat 1] ++ r) x.key h16 (fun y => gtK y a) hk
    have k2 := tkG_fate (p ++ K) r 1 (by omega)
    rw [← hK] at k1
    have e : p ++ chB x ++ r = p ++ K ++ [UInt8.ofNat 1] ++ r := by rw [chB, ← hK, hd]; simp
    have e1 : p ++ K ++ ([UInt8.ofNat 1] ++ r) = p ++ K ++ [UInt8.ofNat 1] ++ r := by simp
    have e3 : p ++ chB x = p ++ K ++ [UInt8.ofNat 1] := by rw [chB, ← hK, hd]; simp
    rw [e1] at k1
    rw [e, e3]
    obtain ⟨L, hL⟩ : ∃ L, L = p ++ K ++ [UInt8.ofNat 1] ++ r := ⟨_, rfl⟩
    rw [← hL] at k1 k2 ⊢
    unfold tkC
    simp only [k1, k2]
    rw [if_pos trivial, ← hz]
theorem tkCs_put (r : List UInt8) : ∀ (cs : List ChF) (p : List UInt8) (a : ByteArray), okCs a cs = true → (∀ x ∈ cs, x.g < 2 ^ 64) → tkCs (p ++ cs.flatMap chB ++ r) cs.length a (p.length, 0) = (cs, ((p ++ cs.flatMap chB).length, 0))
  | [], p, a, _, _ => by simp [tkCs]
  | x :: cs, p, a, h, hg => by
    rw [okCs, Bool.and_eq_true, Bool.and_eq_true, Bool.and_eq_true] at h
    obtain ⟨h1, h2, h3, h4⟩ := h
    have k1 := tkC_put p (cs.flatMap chB ++ r) a x h1 (of_decide_eq_true h2) h3 (hg x (List.mem_cons_self ..))
    have k2 := tkCs_put r cs (p ++ chB x) x.key h4 (fun y hy => hg y (List.mem_cons_of_mem _ hy))
    have e : p ++ (x :: cs).flatMap chB ++ r = p ++ chB x ++ (cs.flatMap chB ++ r) := by simp
    have e2 : p ++ (x :: cs).flatMap chB = p ++ chB x ++ cs.flatMap chB := by simp
    rw [List.length_cons, tkCs, e, k1]
    dsimp only
    rw [← List.append_assoc, k2, e2]
/-- A record's text is read as the record. -/
theorem getR17_put (st : Nat) (hst : st < 2 ^ 64) (cs : List ChF) (h : okR cs = true) (hg : ∀ x ∈ cs, x.g < 2 ^ 64) : getR17 (putR st cs) = (st, cs, 0) := by
  unfold okR at h
  rw [Bool.and_eq_true] at h
  have hl := of_decide_eq_true h.1
  have k1 := tkG_num [] (venc 9 cs.length ++ cs.flatMap chB) st hst (fun _ => true) rfl
  have k2 := tkG_num (venc 9 st) (cs.flatMap chB) cs.length (by omega) (fun x => decide (x ≤ 16)) (by simpa using hl)
  have k3 := tkCs_put [] cs (venc 9 st ++ venc 9 cs.length) ⟨#[]⟩ h.2 hg
  rw [List.append_nil] at k3
  rw [List.nil_append, ← List.append_assoc] at k1
  have e : putR st cs = venc 9 st ++ venc 9 cs.length ++ cs.flatMap chB := rfl
  obtain ⟨L, hL⟩ : ∃ L, L = venc 9 st ++ venc 9 cs.length ++ cs.flatMap chB := ⟨_, rfl⟩
  rw [e]
  have hE : endE L (L.length, 0) = 0 := by simp [endE]
  rw [← hL] at k1 k2 k3 ⊢
  have k1 : tkG 0 (fun a => varR L ((a : Nat) : Int)) (fun _ => true) (0, 0) = (st, ((venc 9 st).length, 0)) := k1
  unfold getR17
  simp only [k1, k2, k3, hE]
  rfl
end Go.Proofs.YtpijfghklgmefaaDoor

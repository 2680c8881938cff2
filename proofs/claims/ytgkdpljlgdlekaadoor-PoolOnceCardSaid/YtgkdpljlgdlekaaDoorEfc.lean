/-
  Contracts of slices.IndexFunc and DeleteFunc over ints, whatever method is handed in that only looks. No condition but bounds.
-/
import Derived.Test.YtgkdpljlgdlekaaDoorEfb
namespace Go.Proofs.YtgkdpljlgdlekaaDoor
open Go.RowKit Go.Proofs
set_option linter.unusedVariables false

/-- What a method that is handed in says of numbers, whatever happened to some blocks. -/
def Says14 (S : Nat → Prop) (w : World) (g : Nat) (v : Value) (d : Nat → Bool) (l : List Nat) : Prop := ∀ W, Fr S w W → ∀ x ∈ l, Calls Tryd.prog g #[v, .int .i64 (x : Int)] W fun e w' => e = .returned (.bool (d x)) ∧ w' = W
theorem getD_mem {l : List Nat} {j : Nat} (h : j < l.length) : l.getD j 0 ∈ l := by
  rw [List.getD_eq_getElem?_getD, List.getElem?_eq_getElem h]
  exact List.getElem_mem _
set_option maxRecDepth 20000 in
set_option maxHeartbeats 1600000 in
theorem indexf_any (g : Nat) (eg : ∀ args w, (callFunc g args).run Tryd.prog w = .ok (.enter g args) w) (v : Value) (d : Nat → Bool) (A : Option Addr) (n c : Nat) (l : List Nat) (w : World) (h : Sl w 1 A n c (ncells l)) (hl : l.length = n) (hd : Says14 (fun _ => False) w g v d l) :
    Calls Tryd.prog 47 #[.slice A n c, .func (.func g) #[v] #[]] w fun e w' => w' = w ∧ ((∃ r : Nat, e = .returned (.int .i64 (r : Int)) ∧ r < n ∧ d (l.getD r 0) = true ∧ ∀ x, x < r → d (l.getD x 0) = false) ∨ (e = .returned (.int .i64 (-1)) ∧ ∀ x, x < n → d (l.getD x 0) = false)) := by
  have hlim := h.lim
  unfold maxLen at hlim
  have H := Lib.hid h
  have HL := Lib.hid hl
  have HD := Lib.hid hd
  clear h hl hd
  go_enter Tryd.func47, Tryd.ntmps47
  go_wp2_with fail
  go_loopw [8] (fun i wr => ∃ j : Nat, j ≤ n ∧ i = .int .i64 (j : Int) ∧ (∀ x, x < j → d (l.getD x 0) = false) ∧ wr = w) (fun i _ => n - (intOf i).toNat)
  case atStart => exact ⟨0, by omega, rfl, fun x hx => absurd hx (by omega), rfl⟩
  case round =>
    obtain ⟨j, hj, rfl, hall, hw⟩ := hrel
    obtain rfl : w = wr := hw.symm
    have Hall := Lib.hid hall
    clear hall
    by_cases hlt : j < n
    · have hji : (j : Int) < (n : Int) := by omega
      obtain ⟨b, o, rfl, hc⟩ := H.out.at_ hlt
      have hc1 := hc j _ (ncells_at (l := l) (by rw [HL.out]; exact hlt))
      have hcall := HD.out w (Fr.refl _ _) _ (getD_mem (l := l) (j := j) (by rw [HL.out]; exact hlt))
      obtain ⟨x, hx⟩ : ∃ x, x = l.getD j 0 := ⟨_, rfl⟩
      rw [← hx] at hc1 hcall
      have Hx := Lib.hid hx
      obtain ⟨y, hy⟩ : ∃ y, y = d x := ⟨_, rfl⟩
      rw [← hy] at hcall
      have Hy := Lib.hid hy
      clear hc hx hy
      cases y
      · go_wp2_with fail
        refine hcall.mono ?_; clear hcall; rintro e w2 ⟨rfl, hw2⟩
        obtain rfl : w = w2 := hw2.symm
        go_wp2_with fail
        go_roundw
        case rel => exact ⟨j + 1, by omega, by go_num, fun z hz => by
          by_cases e : z = j
          · rw [e, ← Hx.out, ← Hy.out]
          · exact Hall.out z (by omega), trivial⟩
        case measure => simp [intOf]; omega
      · go_wp2_with fail
        refine hcall.mono ?_; clear hcall; rintro e w2 ⟨rfl, hw2⟩
        obtain rfl : w = w2 := hw2.symm
        go_wp2_with fail
        go_ret
        exact ⟨rfl, .inl ⟨j, rfl, hlt, by rw [← Hx.out, ← Hy.out], Hall.out⟩⟩
    · obtain rfl : j = n := by omega
      go_wp2_with fail
      go_ret
      exact ⟨rfl, .inr ⟨rfl, Hall.out⟩⟩

theorem zero_i : ∀ w, (zeroValue 3).run Tryd.prog w = .ok (.int .i64 0) w := fun w => by kernel_rfl
/-- clear of the last ones. -/
theorem run_clear14 {w : World} {b n c i : Nat} {cur : List Nat} (ty : TypeId) (h : Rw w b 3 1 n c (ncells cur)) (hi : i < n) :
    (Builtin.clear_ #[27] ty #[.slice (some ⟨b, i, none⟩) (n - i) (c - i)]).run Tryd.prog w = .ok (.tuple #[]) (w.setCells b i (List.replicate (n - i) (.int .i64 0))) :=
  Lib.run_clear_slice w 27 3 ty (.int .i64 0) Tryd.underlying27 zero_i rfl rfl b i (n - i) (c - i) (by omega)
    (fun j hj => by
      have hl := h.len
      rw [h.cell (List.getElem?_eq_getElem (by omega))]; rfl)
    (fun j _ => h.free _)
theorem clear14_take {w : World} {b n c i : Nat} {cur : List Nat} (h : Rw w b 3 1 n c (ncells cur)) (hi : i < n) : Sl (w.setCells b i (List.replicate (n - i) (.int .i64 0))) 1 (some ⟨b, 0, none⟩) i c (ncells (cur.take i)) := by
  have hl := h.len
  rw [ncells_length, Nat.mul_one] at hl
  have hs := (h.store (o := i) (vs := List.replicate (n - i) (.int .i64 0)) (by simp; omega) (by intro v hv; rw [List.eq_of_mem_replicate hv]; rfl)).sl
  refine ⟨by simp [ncells]; omega, by have := h.le; omega, h.top, fun j u hu => ?_⟩
  have hj : j < i := by
    have := (List.getElem?_eq_some_iff.1 hu).1
    simp [ncells] at this
    omega
  refine hs.cell j u ?_
  rw [List.append_assoc, List.getElem?_append_left (by simp [ncells]; omega), ← hu, ncells, ncells, List.map_take]

/-- Those that aren't deleted. -/
def keepL (d : Nat → Bool) (l : List Nat) : List Nat := l.filter fun x => !d x
theorem keepL_snoc_no {d : Nat → Bool} {l : List Nat} {j : Nat} (hj : j < l.length) (h : d (l.getD j 0) = true) : keepL d (l.take (j + 1)) = keepL d (l.take j) := by
  rw [List.take_succ_eq_append_getElem hj, keepL, keepL, List.filter_append]
  have hx : d l[j] = true := by rw [← h]; simp [hj]
  simp [hx]
theorem keepL_snoc_yes {d : Nat → Bool} {l : List Nat} {j : Nat} (hj : j < l.length) (h : d (l.getD j 0) = false) : keepL d (l.take (j + 1)) = keepL d (l.take j) ++ [l.getD j 0] := by
  rw [List.take_succ_eq_append_getElem hj, keepL, keepL, List.filter_append]
  have hx : d l[j] = false := by rw [← h]; simp [hj]
  simp [hx, hj]
theorem keepL_all {d : Nat → Bool} {l : List Nat} (h : ∀ x, x < l.length → d (l.getD x 0) = false) : keepL d l = l := by
  rw [keepL, List.filter_eq_self]
  intro a ha
  obtain ⟨i, hi, rfl⟩ := List.getElem_of_mem ha
  have := h i hi
  simpa [hi] using this
theorem keepL_le {d : Nat → Bool} {l : List Nat} {j : Nat} : (keepL d (l.take j)).length ≤ j := Nat.le_trans (List.length_filter_le _ _) (List.length_take_le _ _)
/-- What DeleteFunc answers. -/
def RetKept (A : Option Addr) (c : Nat) (k : List Nat) (w : World) (e : Ending) (w' : World) : Prop := e = .returned (.slice A k.length c) ∧ Sl w' 1 A k.length c (ncells k) ∧ Fr (Bk A) w w'
set_option maxRecDepth 20000 in
set_option maxHeartbeats 3200000 in
theorem deletef_any (g : Nat) (eg : ∀ args w, (callFunc g args).run Tryd.prog w = .ok (.enter g args) w) (v : Value) (d : Nat → Bool) (A : Option Addr) (n c : Nat) (l : List Nat) (w : World) (h : Rn w A 3 1 n c (ncells l)) (hl : l.length = n) (hd : Says14 (Bk A) w g v d l) :
    Calls Tryd.prog 37 #[.slice A n c, .func (.func g) #[v] #[]] w (RetKept A c (keepL d l) w) := by
  have hlim := h.sl.lim
  have hcap := h.sl.cap
  have htop := h.sl.top
  unfold maxLen at hlim htop
  have hix := indexf_any g eg v d A n c l w h.sl hl (fun W hW => hd W (hW.mono fun _ h => h.elim))
  have H := Lib.hid h
  have HL := Lib.hid hl
  have HD := Lib.hid hd
  clear h hl hd
  go_enter Tryd.func37, Tryd.ntmps37
  go_wp2_with fail
  refine hix.mono ?_; clear hix; rintro e w1 ⟨hw1, hr⟩
  obtain rfl : w = w1 := hw1.symm
  rcases hr with ⟨r, rfl, hrn, hdr, hall⟩ | ⟨rfl, hall⟩
  case inr =>
    have Hall := Lib.hid hall; clear hall
    go_wp2_with fail
    go_ret
    have hk := keepL_all (d := d) (l := l) (by rw [HL.out]; exact Hall.out)
    exact ⟨by rw [hk, HL.out]; rfl, by rw [hk, HL.out]; exact H.out.sl, Fr.refl _ _⟩
  case inl =>
  obtain ⟨b, rfl, hrw⟩ : ∃ b, A = some ⟨b, 0, none⟩ ∧ Rw w b 3 1 n c (ncells l) := by
    rcases H.out with ⟨h0, _⟩ | h
    · omega
    · exact h
  have hz : ((r : Int) == -1) = false := by simp
  have Hrw := Lib.hid hrw
  have Hdr := Lib.hid hdr
  have Hall := Lib.hid hall
  clear hrw hdr hall H
  go_wp2_with fail
  go_loopw [5, 6] (fun x y wr => ∃ (i j : Nat) (cur : List Nat), x = .int .i64 (i : Int) ∧ y = .int .i64 (j : Int) ∧ i < j ∧ j ≤ n ∧ cur.length = n ∧ cur.take i = keepL d (l.take j) ∧ cur.drop j = l.drop j ∧ i = (keepL d (l.take j)).length ∧ Rw wr b 3 1 n c (ncells cur) ∧ Fr (fun k => k = b) w wr) (fun _ y _ => n - (intOf y).toNat)
  case atStart =>
    have hk : keepL d (l.take (r + 1)) = l.take r := by
      rw [keepL_snoc_no (by rw [HL.out]; exact hrn) Hdr.out, keepL_all]
      intro x hx
      have hxr : x < r := by rw [List.length_take] at hx; omega
      have := Hall.out x hxr
      rwa [List.getD_eq_getElem?_getD, List.getElem?_take_of_lt hxr, ← List.getD_eq_getElem?_getD]
    exact ⟨r, r + 1, l, rfl, by go_num, by omega, by omega, HL.out, hk.symm, rfl, by rw [hk, List.length_take, HL.out]; omega, Hrw.out, Fr.refl _ _⟩
  case round =>
    obtain ⟨i, j, cur, rfl, rfl, hij, hj, hcl, htk, hdp, hi, hr, hf⟩ := hrel
    have Htk := Lib.hid htk
    have Hdp := Lib.hid hdp
    have Hcl := Lib.hid hcl
    have Hi := Lib.hid hi
    have Hr := Lib.hid hr
    have Hf := Lib.hid hf
    clear htk hdp hcl hi hr hf
    by_cases hlt : j < n
    · have hji : (j : Int) < (n : Int) := by omega
      have hcj : cur.getD j 0 = l.getD j 0 := by
        have h1 : (cur.drop j)[0]? = (l.drop j)[0]? := by rw [Hdp.out]
        simp only [List.getElem?_drop, Nat.add_zero] at h1
        rw [List.getD_eq_getElem?_getD, List.getD_eq_getElem?_getD, h1]
      have hc1 := Hr.out.cell (ncells_at (l := cur) (j := j) (by rw [Hcl.out]; exact hlt))
      have hc2 := Hr.out.cell (ncells_at (l := cur) (j := i) (by rw [Hcl.out]; omega))
      have hfz := Hr.out.free i
      have hcall := HD.out wr (Hf.out.mono fun k hk => ⟨0, by rw [hk]⟩) _ (getD_mem (l := l) (j := j) (by rw [HL.out]; exact hlt))
      have hys := keepL_snoc_yes (d := d) (l := l) (j := j) (by rw [HL.out]; exact hlt)
      have hno := keepL_snoc_no (d := d) (l := l) (j := j) (by rw [HL.out]; exact hlt)
      rw [hcj] at hc1
      obtain ⟨x, hx⟩ : ∃ x, x = l.getD j 0 := ⟨_, rfl⟩
      rw [← hx] at hc1 hcall hys hno
      have hdp1 : cur.drop (j + 1) = l.drop (j + 1) := by rw [← List.drop_drop, ← List.drop_drop, Hdp.out]
      obtain ⟨q, hq⟩ : ∃ q, q = cur.getD i 0 := ⟨_, rfl⟩
      rw [← hq] at hc2
      obtain ⟨y, hy⟩ : ∃ y, y = d x := ⟨_, rfl⟩
      rw [← hy] at hcall hys hno
      have Hys := Lib.hid hys
      have Hno := Lib.hid hno
      have Hdp1 := Lib.hid hdp1
      have hin : (i : Int) < (n : Int) := by omega
      clear hcj hx hq hy hys hno hdp1
      cases y
      · go_wp2_with fail
        refine hcall.mono ?_; clear hcall; rintro e w2 ⟨rfl, hw2⟩
        obtain rfl : wr = w2 := hw2.symm
        go_wp2_with fail
        go_roundw
        case rel =>
          have hil : (keepL d (l.take (j + 1))) = keepL d (l.take j) ++ [x] := Hys.out trivial
          refine ⟨i + 1, j + 1, cur.set i x, by go_num, by go_num, by omega, by omega, by rw [List.length_set]; exact Hcl.out, ?_, ?_, by rw [hil, List.length_append, List.length_singleton, ← Hi.out], Hr.out.turnN (by omega) x, Hf.out.setCell (p := ⟨b, i, none⟩) (.inr rfl) _⟩
          · rw [hil, ← Htk.out, List.take_succ_eq_append_getElem (by rw [List.length_set, Hcl.out]; omega), List.getElem_set_self, List.take_set_of_le (Nat.le_refl _)]
          · rw [List.drop_set_of_lt (by omega)]
            exact Hdp1.out
        case measure => simp [intOf]; omega
      · go_wp2_with fail
        refine hcall.mono ?_; clear hcall; rintro e w2 ⟨rfl, hw2⟩
        obtain rfl : wr = w2 := hw2.symm
        go_wp2_with fail
        go_roundw
        case rel => exact ⟨i, j + 1, cur, rfl, by go_num, by omega, by omega, Hcl.out, by rw [Hno.out trivial]; exact Htk.out, Hdp1.out, by rw [Hno.out trivial]; exact Hi.out, Hr.out, Hf.out⟩
        case measure => simp [intOf]; omega
    · obtain rfl : j = n := by omega
      have hic : ¬ (c : Int) = (i : Int) := by omega
      have hcr := fun ty => run_clear14 (i := i) ty Hr.out hij
      have hin : (i : Int) ≤ (j : Int) := by omega
      have Ht := Lib.hid (clear14_take (i := i) Hr.out hij)
      have Hf2 := Lib.hid ((Hf.out.trans ((Fr.refl (fun k => k = b) _).setCells (List.replicate (j - i) (.int .i64 0)) (o := i) rfl)).mono fun k hk => (⟨0, by rw [hk]⟩ : Bk (some ⟨b, 0, none⟩) k))
      go_wp2_with fail
      go_ret
      have e : l.take j = l := by rw [← HL.out, List.take_length]
      have hi := Hi.out
      have htk := Htk.out
      rw [e] at hi htk
      rw [htk] at Ht
      exact ⟨by rw [← hi]; rfl, by rw [← hi]; exact Ht.out, Hf2.out⟩
end Go.Proofs.YtgkdpljlgdlekaaDoor

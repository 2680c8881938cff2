/-
  The contracts of the document's Off and Ints of layer 7. No condition but bounds. (Written by gen_dnd.py.)
-/
import Derived.Test.YtjacdabhlnfbkaaDna
import Derived.Test.YtjacdabhlnfbkaaDkd
import Derived.Test.YtjacdabhlnfbkaaInt
namespace Go.Proofs.Ytjacdabhlnfbkaa
open Go.RowKit Go.Proofs
set_option linter.unusedVariables false

theorem Gr.takeK {w : World} {A : Option Addr} {n c cnt : Nat} {rs : List (List UInt8)} (h : Gr w A n c rs) (hc : cnt ≤ n) : Gr w A cnt c (rs.take cnt) := by
  obtain ⟨vs, hs, hr⟩ := h.ex
  have hl := hs.len
  have hcap := hs.cap
  refine ⟨⟨vs.take cnt, ⟨by rw [List.length_take]; omega, by omega, hs.top, fun j u hu => ?_⟩, fun i r hi => ?_⟩, by rw [List.length_take, h.len]; omega⟩
  · rw [List.getElem?_take] at hu
    split at hu
    · exact hs.cell j u hu
    · cases hu
  · rw [List.getElem?_take] at hi
    split at hi
    · rename_i hlt
      obtain ⟨A', c', h1, h2⟩ := hr i r hi
      exact ⟨A', c', by rw [List.getElem?_take, if_pos hlt]; exact h1, h2⟩
    · cases hi
theorem even_take {rs : List (List UInt8)} {k n : Nat} (h : evenB rs (n : Int) = true) (hk : k ≤ n) : rs.length = n ∧ levelB (rs.take k) = true := by
  rw [evenB, Bool.and_eq_true] at h
  have hl := of_decide_eq_true h.1
  have hl' : rs.length = n := by omega
  have hv := of_decide_eq_true h.2
  have hg : ∀ a, a < k → (rs.take k).getD a [] = rs.getD a [] := fun a ha => by simp [ha]
  refine ⟨hl', decide_eq_true fun j hj => ?_⟩
  rw [List.length_take] at hj
  rw [hg j (by omega), hg 0 (by omega)]
  exact hv j (by omega)

set_option maxRecDepth 20000 in
set_option maxHeartbeats 3200000 in
theorem roff_any (k m : Nat) (A : Option Addr) (n c : Nat) (rs : List (List UInt8)) (w : World) (h1 : 1 ≤ k) (h3 : k + m ≤ 255) (hg : Gr w A n c rs) (hW : ∀ r ∈ rs, r.length ≤ 1048576) :
    Calls Try.prog 18 #[.int .i64 (k : Int), .int .i64 (m : Int), .slice A n c] w fun e w' =>
      ((evenB rs ((k : Int) + (m : Int)) = false ∧ e = .returned (.tuple #[.slice none 0 0, .int .i64 2])) ∨
        (evenB rs ((k : Int) + (m : Int)) = true ∧ ∃ A' q c', e = .returned (.tuple #[.slice A' q c', .int .i64 0]) ∧ Sl w' 1 A' q c' (ncells (offL k rs m)))) ∧ Below w.heap.size w w' := by
  have he := reven_any A n c rs ((k : Int) + (m : Int)) w hg
  have hlim := hg.lim
  unfold maxLen at hlim
  by_cases hev : evenB rs ((k : Int) + (m : Int)) = true
  · rw [hev] at he
    have hev2 : evenB rs ((k + m : Nat) : Int) = true := by rw [← hev]; simp
    obtain ⟨hl, hlv⟩ := even_take (k := k) hev2 (by omega)
    have hnk : n = k + m := by have := hg.len; omega
    have hW0 : ((rs.take k).getD 0 []).length ≤ 1048576 := by
      have : (rs.take k).getD 0 [] = rs.getD 0 [] := by simp [show 0 < k by omega]
      rw [this]
      exact hW _ (List.mem_of_getElem? (hg.get (i := 0) (by omega)))
    have Hev := Lib.hid hev
    have Hg := Lib.hid hg
    have Hlv := Lib.hid hlv
    have HW0 := Lib.hid hW0
    have Hnk := Lib.hid hnk
    clear hev hev2 hg hlv hl hnk hW hW0
    go_enter Try.func18, Try.ntmps18
    go_wp2_with fail
    refine he.mono ?_; clear he; rintro e w1 ⟨rfl, hb1⟩
    have Hb1 := Lib.hid hb1
    have hsz1 := hb1.size
    clear hb1
    go_wp2_with fail
    go_loopw [8, 9] (fun v i wr => ∃ (y q : Nat) (A' : Option Addr) (c' : Nat), k ≤ y ∧ y ≤ k + m ∧ q ≤ y ∧ i = .int .i64 (y : Int) ∧ v = .slice A' q c' ∧ Own wr w1.heap.size 3 1 A' q c' (ncells (offL k rs (y - k))) ∧ Below w1.heap.size w1 wr) (fun _ i _ => k + m - (intOf i).toNat)
    case atStart => exact ⟨k, 0, none, 0, by omega, by omega, by omega, rfl, rfl, by rw [Nat.sub_self]; exact (Own.full (Sl.nil w1 1 0 (by decide)) : Own w1 w1.heap.size 3 1 none 0 0 []), Below.refl _ _⟩
    case round =>
      obtain ⟨y, q, A', c', hy, hym, hq, rfl, rfl, hO, hb⟩ := hrel
      have HO := Lib.hid hO
      have Hb := Lib.hid hb
      have hszr := hb.size
      clear hO hb
      by_cases hlt : y < k + m
      · have hlti : (y : Int) < (k : Int) + (m : Int) := by omega
        have hyn : y < n := by have := Hnk.out; omega
        have hyni : (y : Int) < (n : Int) := by omega
        have hkn : k ≤ n := by have := Hnk.out; omega
        have hkni : (k : Int) ≤ (n : Int) := by omega
        have hG := Hg.out.later (Hb1.out.trans ((Hb.out.trans ((Below.drew (Below.refl _ _)).mono Hb.out.size)).mono hsz1))
        have hcapn := hG.capLe
        have hcapi : (k : Int) ≤ (c : Int) := by omega
        have GT := Lib.hid (hG.takeK hkn)
        obtain ⟨b1, o1, rfl, hc1⟩ := hG.at_ (by omega)
        obtain ⟨Ar, cr, q1, sr⟩ := hc1 y _ (hG.get hyn)
        have hnext := offL_next k rs (y - k)
        rw [show k + (y - k) = y from by omega] at hnext
        have hoff : isOff k rs (y - k) = !decide (shard k (rs.take k) y = rs.getD y []) := by rw [isOff, show k + (y - k) = y from by omega]
        obtain ⟨r, hr⟩ : ∃ r, r = rs.getD y [] := ⟨_, rfl⟩
        rw [← hr] at q1 sr hoff
        obtain ⟨Lr, hLr⟩ : ∃ L, L = r.length := ⟨_, rfl⟩
        rw [← hLr] at q1 sr
        obtain ⟨sh, hsh⟩ : ∃ l, l = shard k (rs.take k) y := ⟨_, rfl⟩
        rw [← hsh] at hoff
        have X1 := Lib.hid q1
        have RS := Lib.hid sr
        have Hsh := Lib.hid hsh
        have Hy1 := Lib.hid (show y + 1 - k = y - k + 1 from by omega)
        clear hG hc1 q1 sr hr hLr hsh hcapn
        by_cases heq : sh = r
        · rw [hoff, decide_eq_true heq] at hnext
          have Hnext := Lib.hid hnext
          have hz : ((bstr sh).toList == (bstr r).toList) = true := by rw [bstr_toList, bstr_toList]; simpa using heq
          clear hoff hnext heq
          go_upto_region 7 with (fail)
          refine wp_region_held_drew (S := fun w' => Fr (fun _ => False) wr.drew w') (by kernel_rfl) (Fr.refl _ _) (fun hHeld => ?_)
          clear hHeld
          refine wpAnyH_take (i := 0) (oi := ⟨some 24, _, _, _, _, _⟩) (v := ?vg0) rfl (by kernel_rfl) (by kernel_rfl) (by kernel_rfl) (fun _ _ _ h => h) (Or.inl ⟨by rfl, ?yg0⟩) (Fr.refl _ _) ?rg0
          case yg0 =>
            intro wq hSw
            (try dsimp only at hSw)
            first | (go_simp; done) | (go_simp; with_reducible rfl)
          try simp only [Act.put, List.setIfInBounds_toArray, List.set_cons_zero, List.set_cons_succ]
          refine wpAnyH_take (i := 1) (oi := ⟨some 25, _, _, _, _, _⟩) (v := ?vg1) rfl (by kernel_rfl) (by kernel_rfl) (by kernel_rfl) (fun _ _ _ h => h) (Or.inl ⟨by rfl, ?yg1⟩) (Fr.refl _ _) ?rg1
          case yg1 =>
            intro wq hSw
            (try dsimp only at hSw)
            first | (go_simp; done) | (go_simp; with_reducible rfl)
          try simp only [Act.put, List.setIfInBounds_toArray, List.set_cons_zero, List.set_cons_succ]
          refine wpAnyH_take (i := 2) (oi := ⟨some 26, _, _, _, _, _⟩) (v := ?vg2) rfl (by kernel_rfl) (by kernel_rfl) (by kernel_rfl) (fun _ _ _ h => h) (Or.inl ⟨by rfl, ?yg2⟩) (Fr.refl _ _) ?rg2
          case yg2 =>
            intro wq hSw
            (try dsimp only at hSw)
            first | (go_simp; done) | (go_simp; with_reducible rfl)
          try simp only [Act.put, List.setIfInBounds_toArray, List.set_cons_zero, List.set_cons_succ]
          refine wpAnyH_take (i := 3) (oi := ⟨some 27, _, _, _, _, _⟩) (v := ?vg3) rfl (by kernel_rfl) (by kernel_rfl) (by kernel_rfl) (fun _ _ _ h => h) (Or.inl ⟨by rfl, ?yg3⟩) (Fr.refl _ _) ?rg3
          case yg3 =>
            intro wq hSw
            (try dsimp only at hSw)
            first | (go_simp; done) | (go_simp; with_reducible rfl)
          try simp only [Act.put, List.setIfInBounds_toArray, List.set_cons_zero, List.set_cons_succ]
          refine wpAnyH_take (i := 6) (oi := ⟨some 30, _, _, _, _, _⟩) (v := ?vg6) rfl (by kernel_rfl) (by kernel_rfl) (by kernel_rfl) (fun _ _ _ h => h) (Or.inl ⟨by rfl, ?yg6⟩) (Fr.refl _ _) ?rg6
          case yg6 =>
            intro wq hSw
            (try dsimp only at hSw)
            first | (go_simp; done) | (go_simp; with_reducible rfl)
          try simp only [Act.put, List.setIfInBounds_toArray, List.set_cons_zero, List.set_cons_succ]
          refine wpAnyH_take (i := 7) (oi := ⟨some 31, _, _, _, _, _⟩) (v := ?vg7) rfl (by kernel_rfl) (by kernel_rfl) (by kernel_rfl) (fun _ _ _ h => h) (Or.inl ⟨by rfl, ?yg7⟩) (Fr.refl _ _) ?rg7
          case yg7 =>
            intro wq hSw
            (try dsimp only at hSw)
            first | (go_simp; done) | (go_simp; with_reducible rfl)
          try simp only [Act.put, List.setIfInBounds_toArray, List.set_cons_zero, List.set_cons_succ]
          refine wpAnyH_take (i := 8) (oi := ⟨some 32, _, _, _, _, _⟩) (v := ?vg8) rfl (by kernel_rfl) (by kernel_rfl) (by kernel_rfl) (fun _ _ _ h => h) (Or.inl ⟨by rfl, ?yg8⟩) (Fr.refl _ _) ?rg8
          case yg8 =>
            intro wq hSw
            (try dsimp only at hSw)
            first | (go_simp; done) | (go_simp; with_reducible rfl)
          try simp only [Act.put, List.setIfInBounds_toArray, List.set_cons_zero, List.set_cons_succ]
          refine wpAnyH_take (i := 9) (oi := ⟨some 33, _, _, _, _, _⟩) (v := ?vg9) rfl (by kernel_rfl) (by kernel_rfl) (by kernel_rfl) (fun _ _ _ h => h) (Or.inl ⟨by rfl, ?yg9⟩) (Fr.refl _ _) ?rg9
          case yg9 =>
            intro wq hSw
            (try dsimp only at hSw)
            have q0 := hSw.cell_some X1.out (fun h => h)
            first | (go_simp; done) | (go_simp; with_reducible rfl)
          try simp only [Act.put, List.setIfInBounds_toArray, List.set_cons_zero, List.set_cons_succ]
          refine wpAnyH_take (i := 10) (oi := ⟨some 34, _, _, _, _, _⟩) (v := ?vg10) rfl (by kernel_rfl) (by kernel_rfl) (by kernel_rfl) (fun _ _ _ h => h) (Or.inl ⟨by rfl, ?yg10⟩) (Fr.refl _ _) ?rg10
          case yg10 =>
            intro wq hSw
            (try dsimp only at hSw)
            have kk := str_of (RS.out.fr hSw (fun _ _ _ _ h => h))
            first | (go_simp; done) | (go_simp; with_reducible rfl)
          try simp only [Act.put, List.setIfInBounds_toArray, List.set_cons_zero, List.set_cons_succ]
          refine wpAnyH_ready (rs := [4]) (by kernel_rfl) (by simp) ?_
          refine AllReadyH.cons (o := ⟨some 28, _, _, _, _, _⟩) rfl (fun K hK => ?_) AllReadyH.nil
          go_simp
          have hh := rshard_any k y (some ⟨b1, o1, none⟩) c (rs.take k) wr.drew GT.out h1 (by omega) (by omega) Hlv.out HW0.out
          refine hh.mono ?_; clear hh; rintro e v1 ⟨Ac, nc, cc, rfl, hsc, hbN, hmc⟩
          rw [← Hsh.out] at hsc
          have Hsc := Lib.hid hsc
          have HBv := Lib.hid (Hb.out.trans (((Below.drew (Below.refl _ _)).trans hbN).mono Hb.out.size))
          have HOv := Lib.hid (HO.out.below ((Below.drew (Below.refl _ _)).trans hbN))
          have hfr : Fr (fun _ => False) wr.drew v1 := Fr.of_below hbN
          clear hsc hmc hbN
          go_wp2_with fail
          refine hK.out _ _ hfr (fun hHeld => ?_)
          clear hK K hHeld
          try simp only [Act.put, List.setIfInBounds_toArray, List.set_cons_zero, List.set_cons_succ]
          refine wpAnyH_re (S' := fun w' => Fr (fun _ => False) v1 w') (fun w' h => hfr.trans h) ?_
          clear hfr
          refine wpAnyH_take (i := 5) (oi := ⟨some 29, _, _, _, _, _⟩) (v := ?vg5) rfl (by kernel_rfl) (by kernel_rfl) (by kernel_rfl) (fun _ _ _ h => h) (Or.inl ⟨by rfl, ?yg5⟩) (Fr.refl _ _) ?rg5
          case yg5 =>
            intro wq hSw
            (try dsimp only at hSw)
            have kk := str_of (Hsc.out.fr hSw (fun _ _ _ _ h => h))
            first | (go_simp; done) | (go_simp; with_reducible rfl)
          try simp only [Act.put, List.setIfInBounds_toArray, List.set_cons_zero, List.set_cons_succ]
          refine wpAnyH_take (i := 11) (oi := ⟨some 35, _, _, _, _, _⟩) (v := ?vg11) rfl (by kernel_rfl) (by kernel_rfl) (by kernel_rfl) (fun _ _ _ h => h) (Or.inl ⟨by rfl, ?yg11⟩) (Fr.refl _ _) ?rg11
          case yg11 =>
            intro wq hSw
            (try dsimp only at hSw)
            first | (go_simp; done) | (go_simp; with_reducible rfl)
          try simp only [Act.put, List.setIfInBounds_toArray, List.set_cons_zero, List.set_cons_succ]
          refine wpAnyH_done (by kernel_rfl) ?_ _
          go_wp2_with fail
          go_roundw
          case rel => exact ⟨y + 1, q, A', c', by omega, by omega, by omega, by go_num, rfl, by rw [Hy1.out, Hnext.out, if_neg (by decide)]; exact HOv.out, HBv.out⟩
          case measure => simp [intOf]; omega
        · rw [hoff, decide_eq_false heq] at hnext
          have Hnext := Lib.hid hnext
          have hz : ((bstr sh).toList == (bstr r).toList) = false := by rw [bstr_toList, bstr_toList]; simpa using heq
          clear hoff hnext heq
          go_upto_region 7 with (fail)
          refine wp_region_held_drew (S := fun w' => Fr (fun _ => False) wr.drew w') (by kernel_rfl) (Fr.refl _ _) (fun hHeld => ?_)
          clear hHeld
          refine wpAnyH_take (i := 0) (oi := ⟨some 24, _, _, _, _, _⟩) (v := ?vh0) rfl (by kernel_rfl) (by kernel_rfl) (by kernel_rfl) (fun _ _ _ h => h) (Or.inl ⟨by rfl, ?yh0⟩) (Fr.refl _ _) ?rh0
          case yh0 =>
            intro wq hSw
            (try dsimp only at hSw)
            first | (go_simp; done) | (go_simp; with_reducible rfl)
          try simp only [Act.put, List.setIfInBounds_toArray, List.set_cons_zero, List.set_cons_succ]
          refine wpAnyH_take (i := 1) (oi := ⟨some 25, _, _, _, _, _⟩) (v := ?vh1) rfl (by kernel_rfl) (by kernel_rfl) (by kernel_rfl) (fun _ _ _ h => h) (Or.inl ⟨by rfl, ?yh1⟩) (Fr.refl _ _) ?rh1
          case yh1 =>
            intro wq hSw
            (try dsimp only at hSw)
            first | (go_simp; done) | (go_simp; with_reducible rfl)
          try simp only [Act.put, List.setIfInBounds_toArray, List.set_cons_zero, List.set_cons_succ]
          refine wpAnyH_take (i := 2) (oi := ⟨some 26, _, _, _, _, _⟩) (v := ?vh2) rfl (by kernel_rfl) (by kernel_rfl) (by kernel_rfl) (fun _ _ _ h => h) (Or.inl ⟨by rfl, ?yh2⟩) (Fr.refl _ _) ?rh2
          case yh2 =>
            intro wq hSw
            (try dsimp only at hSw)
            first | (go_simp; done) | (go_simp; with_reducible rfl)
          try simp only [Act.put, List.setIfInBounds_toArray, List.set_cons_zero, List.set_cons_succ]
          refine wpAnyH_take (i := 3) (oi := ⟨some 27, _, _, _, _, _⟩) (v := ?vh3) rfl (by kernel_rfl) (by kernel_rfl) (by kernel_rfl) (fun _ _ _ h => h) (Or.inl ⟨by rfl, ?yh3⟩) (Fr.refl _ _) ?rh3
          case yh3 =>
            intro wq hSw
            (try dsimp only at hSw)
            first | (go_simp; done) | (go_simp; with_reducible rfl)
          try simp only [Act.put, List.setIfInBounds_toArray, List.set_cons_zero, List.set_cons_succ]
          refine wpAnyH_take (i := 6) (oi := ⟨some 30, _, _, _, _, _⟩) (v := ?vh6) rfl (by kernel_rfl) (by kernel_rfl) (by kernel_rfl) (fun _ _ _ h => h) (Or.inl ⟨by rfl, ?yh6⟩) (Fr.refl _ _) ?rh6
          case yh6 =>
            intro wq hSw
            (try dsimp only at hSw)
            first | (go_simp; done) | (go_simp; with_reducible rfl)
          try simp only [Act.put, List.setIfInBounds_toArray, List.set_cons_zero, List.set_cons_succ]
          refine wpAnyH_take (i := 7) (oi := ⟨some 31, _, _, _, _, _⟩) (v := ?vh7) rfl (by kernel_rfl) (by kernel_rfl) (by kernel_rfl) (fun _ _ _ h => h) (Or.inl ⟨by rfl, ?yh7⟩) (Fr.refl _ _) ?rh7
          case yh7 =>
            intro wq hSw
            (try dsimp only at hSw)
            first | (go_simp; done) | (go_simp; with_reducible rfl)
          try simp only [Act.put, List.setIfInBounds_toArray, List.set_cons_zero, List.set_cons_succ]
          refine wpAnyH_take (i := 8) (oi := ⟨some 32, _, _, _, _, _⟩) (v := ?vh8) rfl (by kernel_rfl) (by kernel_rfl) (by kernel_rfl) (fun _ _ _ h => h) (Or.inl ⟨by rfl, ?yh8⟩) (Fr.refl _ _) ?rh8
          case yh8 =>
            intro wq hSw
            (try dsimp only at hSw)
            first | (go_simp; done) | (go_simp; with_reducible rfl)
          try simp only [Act.put, List.setIfInBounds_toArray, List.set_cons_zero, List.set_cons_succ]
          refine wpAnyH_take (i := 9) (oi := ⟨some 33, _, _, _, _, _⟩) (v := ?vh9) rfl (by kernel_rfl) (by kernel_rfl) (by kernel_rfl) (fun _ _ _ h => h) (Or.inl ⟨by rfl, ?yh9⟩) (Fr.refl _ _) ?rh9
          case yh9 =>
            intro wq hSw
            (try dsimp only at hSw)
            have q0 := hSw.cell_some X1.out (fun h => h)
            first | (go_simp; done) | (go_simp; with_reducible rfl)
          try simp only [Act.put, List.setIfInBounds_toArray, List.set_cons_zero, List.set_cons_succ]
          refine wpAnyH_take (i := 10) (oi := ⟨some 34, _, _, _, _, _⟩) (v := ?vh10) rfl (by kernel_rfl) (by kernel_rfl) (by kernel_rfl) (fun _ _ _ h => h) (Or.inl ⟨by rfl, ?yh10⟩) (Fr.refl _ _) ?rh10
          case yh10 =>
            intro wq hSw
            (try dsimp only at hSw)
            have kk := str_of (RS.out.fr hSw (fun _ _ _ _ h => h))
            first | (go_simp; done) | (go_simp; with_reducible rfl)
          try simp only [Act.put, List.setIfInBounds_toArray, List.set_cons_zero, List.set_cons_succ]
          refine wpAnyH_ready (rs := [4]) (by kernel_rfl) (by simp) ?_
          refine AllReadyH.cons (o := ⟨some 28, _, _, _, _, _⟩) rfl (fun K hK => ?_) AllReadyH.nil
          go_simp
          have hh := rshard_any k y (some ⟨b1, o1, none⟩) c (rs.take k) wr.drew GT.out h1 (by omega) (by omega) Hlv.out HW0.out
          refine hh.mono ?_; clear hh; rintro e v1 ⟨Ac, nc, cc, rfl, hsc, hbN, hmc⟩
          rw [← Hsh.out] at hsc
          have Hsc := Lib.hid hsc
          have HBv := Lib.hid (Hb.out.trans (((Below.drew (Below.refl _ _)).trans hbN).mono Hb.out.size))
          have HOv := Lib.hid (HO.out.below ((Below.drew (Below.refl _ _)).trans hbN))
          have hfr : Fr (fun _ => False) wr.drew v1 := Fr.of_below hbN
          clear hsc hmc hbN
          go_wp2_with fail
          refine hK.out _ _ hfr (fun hHeld => ?_)
          clear hK K hHeld
          try simp only [Act.put, List.setIfInBounds_toArray, List.set_cons_zero, List.set_cons_succ]
          refine wpAnyH_re (S' := fun w' => Fr (fun _ => False) v1 w') (fun w' h => hfr.trans h) ?_
          clear hfr
          refine wpAnyH_take (i := 5) (oi := ⟨some 29, _, _, _, _, _⟩) (v := ?vh5) rfl (by kernel_rfl) (by kernel_rfl) (by kernel_rfl) (fun _ _ _ h => h) (Or.inl ⟨by rfl, ?yh5⟩) (Fr.refl _ _) ?rh5
          case yh5 =>
            intro wq hSw
            (try dsimp only at hSw)
            have kk := str_of (Hsc.out.fr hSw (fun _ _ _ _ h => h))
            first | (go_simp; done) | (go_simp; with_reducible rfl)
          try simp only [Act.put, List.setIfInBounds_toArray, List.set_cons_zero, List.set_cons_succ]
          refine wpAnyH_take (i := 11) (oi := ⟨some 35, _, _, _, _, _⟩) (v := ?vh11) rfl (by kernel_rfl) (by kernel_rfl) (by kernel_rfl) (fun _ _ _ h => h) (Or.inl ⟨by rfl, ?yh11⟩) (Fr.refl _ _) ?rh11
          case yh11 =>
            intro wq hSw
            (try dsimp only at hSw)
            first | (go_simp; done) | (go_simp; with_reducible rfl)
          try simp only [Act.put, List.setIfInBounds_toArray, List.set_cons_zero, List.set_cons_succ]
          refine wpAnyH_done (by kernel_rfl) ?_ _
          have hszv := HBv.out.size
          have hwin : w1.heap.size ≤ (v1.alloc (.cells #[.int .i64 (y : Int)] 3)).heap.size := by simp; omega
          go_wp2_with (at_builtin; refine wpList_append_i (B := w1.heap.size) rfl (.tmp 36) (.tmp 38) rfl rfl (HOv.out.alloc _) hwin (some ⟨v1.heap.size, 0, none⟩) 1 1 [y] rfl (Sl.oneN _ _ _ _ rfl) ?pb ?pc)
          case pb => omega
          intro A3 c3 w3 ho3 hb3 _
          have e3 : ncells (offL k rs (y - k)) ++ ncells [y] = ncells (offL k rs (y + 1 - k)) := by rw [← ncells_append, Hy1.out, Hnext.out, if_pos (by decide)]
          rw [e3] at ho3
          have Ho3 := Lib.hid ho3
          have Hb3 := Lib.hid ((HBv.out.alloc hszv _).trans hb3)
          clear e3 ho3 hb3
          go_wp2_with fail
          go_roundw
          case rel => exact ⟨y + 1, q + 1, A3, c3, by omega, by omega, by omega, by go_num, rfl, Ho3.out, Hb3.out⟩
          case measure => simp [intOf]; omega
      · obtain rfl : y = k + m := by omega
        have hge : ¬ (((k + m : Nat) : Int) < (k : Int) + (m : Int)) := by omega
        go_wp2_with fail
        go_ret2
        have ho := HO.out
        rw [show k + m - k = m from by omega] at ho
        exact ⟨.inr ⟨Hev.out, A', q, c', rfl, ho.sl⟩, Hb1.out.trans (Hb.out.mono hsz1)⟩
  · have hev' : evenB rs ((k : Int) + (m : Int)) = false := by simpa using hev
    rw [hev'] at he
    have Hev := Lib.hid hev'
    clear hev hev' hg hW
    go_enter Try.func18, Try.ntmps18
    go_wp2_with fail
    refine he.mono ?_; clear he; rintro e w1 ⟨rfl, hb1⟩
    go_wp2_with fail
    go_ret2
    exact ⟨.inl ⟨Hev.out, rfl⟩, hb1⟩

end Go.Proofs.Ytjacdabhlnfbkaa

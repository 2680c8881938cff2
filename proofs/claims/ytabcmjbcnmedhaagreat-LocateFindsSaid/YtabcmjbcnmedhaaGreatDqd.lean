/-
  Contracts of package locate's small calls: made, bears, fit; rows each of which a function makes; parts of rows; the rows themselves in new memory. Condition: the coder is one that New made, or nil.
-/
import Derived.Test.YtabcmjbcnmedhaaGreatDqb
import Derived.BigQuiet
namespace Go.Proofs.YtabcmjbcnmedhaaGreat
open Go.RowKit Go.Proofs
set_option linter.unusedVariables false

set_option maxRecDepth 20000 in
theorem lmade_yes (C k m F T : Nat) (w : World) (h : Cod w C k m F T) :
    Calls Tryz.prog 27 #[.pointer (some ⟨C, 0, none⟩)] w fun e w' => e = .returned (.bool true) ∧ w' = w := by
  have hh := cf_any C k m F T w h
  clear h
  go_enter Tryz.func27, Tryz.ntmps27
  go_wp2_with fail
  refine hh.mono ?_; clear hh; rintro e w1 ⟨rfl, rfl⟩
  go_wp2_with fail
  go_ret
  exact ⟨rfl, rfl⟩
set_option maxRecDepth 20000 in
theorem lmade_no (w : World) : Calls Tryz.prog 27 #[.pointer none] w fun e w' => e = .returned (.bool false) ∧ w' = w := by
  go_enter Tryz.func27, Tryz.ntmps27
  go_wp2_with fail
  refine (cf_nil _).mono ?_; rintro e w1 ⟨rfl, rfl⟩
  go_wp2_with fail
  go_ret
  exact ⟨rfl, rfl⟩

/-- May so many wrong rows be looked for? -/
def bearsB (k m : Nat) (most : Int) : Bool := decide (k + m ≤ 16 ∧ 0 ≤ most ∧ most ≤ 2 ∧ 2 * most ≤ (m : Int))
theorem bearsB_t {k m : Nat} {most : Int} (h : k + m ≤ 16 ∧ 0 ≤ most ∧ most ≤ 2 ∧ 2 * most ≤ (m : Int)) : bearsB k m most = true := decide_eq_true h
theorem bearsB_f {k m : Nat} {most : Int} (h : ¬ (k + m ≤ 16 ∧ 0 ≤ most ∧ most ≤ 2 ∧ 2 * most ≤ (m : Int))) : bearsB k m most = false := decide_eq_false h
set_option maxRecDepth 20000 in
set_option maxHeartbeats 800000 in
theorem bears_any (C k m F T : Nat) (most : Int) (hb1 : -9223372036854775808 ≤ most) (hb2 : most < 9223372036854775808) (w : World) (h : Cod w C k m F T) :
    Calls Tryz.prog 28 #[.pointer (some ⟨C, 0, none⟩), .int .i64 most] w fun e w' => e = .returned (.bool (bearsB k m most)) ∧ Below w.heap.size w w' := by
  have hcn := cn_any C k m F T w h
  have h3 := h.n255
  obtain ⟨N, hN⟩ : ∃ N, N = k + m := ⟨_, rfl⟩
  rw [← hN] at hcn
  have H := Lib.hid h
  have HN := Lib.hid hN
  clear h
  by_cases h16 : N ≤ 16
  · by_cases h0 : 0 ≤ most
    · by_cases h2 : most ≤ 2
      · by_cases hm : 2 * most ≤ (m : Int)
        · rw [bearsB_t ⟨by omega, h0, h2, hm⟩]
          have h16i : (N : Int) ≤ 16 := by omega
          clear hN
          go_enter Tryz.func28, Tryz.ntmps28
          go_wp2_with fail
          refine hcn.mono ?_; clear hcn; rintro e w1 ⟨rfl, hb⟩
          have hcm := cm_any C k m F T _ (H.out.later hb)
          go_wp2_with fail
          refine hcm.mono ?_; clear hcm; rintro e w2 ⟨rfl, rfl⟩
          go_wp2_with fail
          go_ret
          exact ⟨by first | rfl | (simp; omega), hb⟩
        · rw [bearsB_f (fun x => hm x.2.2.2)]
          have h16i : (N : Int) ≤ 16 := by omega
          clear hN
          go_enter Tryz.func28, Tryz.ntmps28
          go_wp2_with fail
          refine hcn.mono ?_; clear hcn; rintro e w1 ⟨rfl, hb⟩
          have hcm := cm_any C k m F T _ (H.out.later hb)
          go_wp2_with fail
          refine hcm.mono ?_; clear hcm; rintro e w2 ⟨rfl, rfl⟩
          go_wp2_with fail
          go_ret
          exact ⟨by first | rfl | (simp; omega), hb⟩
      · rw [bearsB_f (fun x => h2 x.2.2.1)]
        have h16i : (N : Int) ≤ 16 := by omega
        clear hN
        go_enter Tryz.func28, Tryz.ntmps28
        go_wp2_with fail
        refine hcn.mono ?_; clear hcn; rintro e w1 ⟨rfl, hb⟩
        go_wp2_with fail
        go_ret
        exact ⟨by first | rfl | (simp; omega), hb⟩
    · rw [bearsB_f (fun x => h0 x.2.1)]
      have h16i : (N : Int) ≤ 16 := by omega
      clear hN
      go_enter Tryz.func28, Tryz.ntmps28
      go_wp2_with fail
      refine hcn.mono ?_; clear hcn; rintro e w1 ⟨rfl, hb⟩
      go_wp2_with fail
      go_ret
      exact ⟨by first | rfl | (simp; omega), hb⟩
  · rw [bearsB_f (fun x => h16 (by omega))]
    have h16i : ¬ (N : Int) ≤ 16 := by omega
    clear hN
    go_enter Tryz.func28, Tryz.ntmps28
    go_wp2_with fail
    refine hcn.mono ?_; clear hcn; rintro e w1 ⟨rfl, hb⟩
    go_wp2_with fail
    go_ret
    exact ⟨by first | rfl | (simp; omega), hb⟩

set_option maxRecDepth 20000 in
theorem fitl1_any (b : Nat) (A A2 : Option Addr) (n c q c2 : Nat) (rs : List (List UInt8)) (w : World) (hb : w.cell? ⟨b, 0, none⟩ = some (.slice A n c)) (hg : Gr w A n c rs) (hn : 0 < n) :
    Calls Tryz.prog 41 #[.slice A2 q c2, .pointer (some ⟨b, 0, none⟩)] w fun e w' => e = .returned (.bool (!decide (q = (rs.getD 0 []).length))) ∧ w' = w := by
  obtain ⟨b', o, rfl, hc⟩ := hg.at_ hn
  obtain ⟨A0, c0, hc0, _⟩ := hc 0 _ (hg.get hn)
  rw [Nat.add_zero] at hc0
  obtain ⟨L, hL⟩ : ∃ L, L = (rs.getD 0 []).length := ⟨_, rfl⟩
  rw [← hL] at hc0 ⊢
  clear hc hg hL
  by_cases h : q = L
  · have hz : ((q : Int) != (L : Int)) = false := by simp [h]
    rw [decide_eq_true h]
    have Hx := Lib.hid h; clear h
    go_enter Tryz.func41, Tryz.ntmps41
    go_wp2_with fail
    go_ret
    exact ⟨by first | rfl | simp [Hx.out], rfl⟩
  · have hz : ((q : Int) != (L : Int)) = true := by simp; omega
    rw [decide_eq_false h]
    have Hx := Lib.hid h; clear h
    go_enter Tryz.func41, Tryz.ntmps41
    go_wp2_with fail
    go_ret
    exact ⟨by first | rfl | (have := Hx.out; simp; omega), rfl⟩

set_option maxRecDepth 20000 in
set_option maxHeartbeats 800000 in
theorem lindex_any (b : Nat) (A : Option Addr) (n c : Nat) (rs : List (List UInt8)) (w : World) (hg : Gr w A n c rs) (hb : w.cell? ⟨b, 0, none⟩ = some (.slice A n c)) :
    Calls Tryz.prog 58 #[.slice A n c, .func (.func 41) #[] #[.pointer (some ⟨b, 0, none⟩)]] w
      fun e w' => w' = w ∧ ((e = .returned (.int .i64 (-1)) ∧ ∀ i, i < n → (rs.getD i []).length = (rs.getD 0 []).length) ∨ ∃ d : Nat, e = .returned (.int .i64 (d : Int)) ∧ d < n ∧ (rs.getD d []).length ≠ (rs.getD 0 []).length) := by
  have hn := hg.lim
  unfold maxLen at hn
  have Hg := Lib.hid hg; clear hg
  have Hb := Lib.hid hb; clear hb
  go_enter Tryz.func58, Tryz.ntmps58
  go_wp2_with fail
  go_loopw [8] (fun i wr => ∃ k : Nat, k ≤ n ∧ i = .int .i64 (k : Int) ∧ wr = w ∧ ∀ j, j < k → (rs.getD j []).length = (rs.getD 0 []).length) (fun i _ => n - (intOf i).toNat)
  case atStart => exact ⟨0, by omega, rfl, rfl, fun j hj => absurd hj (by omega)⟩
  case round =>
    obtain ⟨k, hk, rfl, rfl, hz⟩ := hrel
    have Hz := Lib.hid hz; clear hz
    by_cases hlt : k < n
    · have Hb' := Hb.out
      obtain ⟨b', o, hA, hc⟩ := Hg.out.at_ (by omega)
      obtain ⟨A1, c1, hc1, hs1⟩ := hc k _ (Hg.out.get hlt)
      obtain ⟨r, hr⟩ : ∃ r, r = rs.getD k [] := ⟨_, rfl⟩
      rw [← hr] at hc1 hs1
      obtain ⟨q, hq⟩ : ∃ q, q = r.length := ⟨_, rfl⟩
      rw [← hq] at hc1
      have hh := fitl1_any b A A1 n c q c1 rs wr Hb.out Hg.out (by omega)
      clear hc hs1 Hb'
      subst hA
      have Hr := Lib.hid hr; clear hr
      have Hq := Lib.hid hq; clear hq
      by_cases he : q = (rs.getD 0 []).length
      · rw [decide_eq_true he] at hh
        have He := Lib.hid he; clear he
        go_wp2_with fail
        refine hh.mono ?_; clear hh; rintro e w' ⟨rfl, rfl⟩
        go_wp2_with fail
        go_roundw
        case rel => exact ⟨k + 1, by omega, by go_num, trivial, fun j hjk => by
          by_cases hj : j = k
          · subst hj; rw [← Hr.out, ← Hq.out, He.out]
          · exact Hz.out j (by omega)⟩
        case measure => simp [intOf]; omega
      · rw [decide_eq_false he] at hh
        have He := Lib.hid he; clear he
        go_wp2_with fail
        refine hh.mono ?_; clear hh; rintro e w' ⟨rfl, rfl⟩
        go_wp2_with fail
        go_ret
        exact ⟨rfl, .inr ⟨k, rfl, hlt, by rw [← Hr.out, ← Hq.out]; exact He.out⟩⟩
    · obtain rfl : k = n := by omega
      go_wp2_with fail
      go_ret
      exact ⟨rfl, .inl ⟨rfl, Hz.out⟩⟩

set_option maxRecDepth 20000 in
theorem lcontains_any (b : Nat) (A : Option Addr) (n c : Nat) (rs : List (List UInt8)) (w : World) (hg : Gr w A n c rs) (hb : w.cell? ⟨b, 0, none⟩ = some (.slice A n c)) :
    Calls Tryz.prog 40 #[.slice A n c, .func (.func 41) #[] #[.pointer (some ⟨b, 0, none⟩)]] w
      fun e w' => w' = w ∧ e = .returned (.bool (!levelB rs)) := by
  have hh := lindex_any b A n c rs w hg hb
  have hl := hg.len
  have Hl := Lib.hid hl
  clear hg hb hl
  go_enter Tryz.func40, Tryz.ntmps40
  go_wp2_with fail
  refine hh.mono ?_; clear hh; rintro e w' ⟨rfl, ⟨rfl, ha⟩ | ⟨d, rfl, hd, ha⟩⟩
  · have Ha := Lib.hid ha; clear ha
    go_wp2_with fail
    go_ret
    exact ⟨rfl, by rw [show levelB rs = true from decide_eq_true (fun i hi => Ha.out i (by rw [← Hl.out]; exact hi))]; rfl⟩
  · have Ha := Lib.hid ha; clear ha
    go_wp2_with fail
    go_ret
    exact ⟨rfl, by rw [show levelB rs = false from decide_eq_false (fun hall => Ha.out (hall d (by rw [Hl.out]; exact hd)))]; first | rfl | (simp; omega)⟩

set_option maxRecDepth 20000 in
theorem lfit_any (A : Option Addr) (n c : Nat) (rs : List (List UInt8)) (many : Int) (w : World) (hg : Gr w A n c rs) :
    Calls Tryz.prog 29 #[.slice A n c, .int .i64 many] w fun e w' => e = .returned (.bool (evenB rs many)) ∧ Below w.heap.size w w' := by
  have hb0 : Below w.heap.size w (w.alloc (.cells #[.slice A n c] 22)) := (Below.refl _ _).alloc (Nat.le_refl _) _
  have hh := lcontains_any w.heap.size A n c rs _ (hg.later hb0) (cell_of_one (heap_alloc_new w (.cells #[.slice A n c] 22)))
  have hl := hg.len
  have Hb0 := Lib.hid hb0; clear hb0
  by_cases hn : (n : Int) = many
  · have hz : ((n : Int) == many) = true := by simpa using hn
    have hd : evenB rs many = levelB rs := by rw [evenB, hl, decide_eq_true hn, Bool.true_and]
    rw [hd]
    obtain ⟨x, hx⟩ : ∃ x, x = levelB rs := ⟨_, rfl⟩
    rw [← hx] at hh ⊢
    have Hn := Lib.hid hn
    clear hn hd hx hg hl
    go_enter Tryz.func29, Tryz.ntmps29
    go_wp2_with fail
    refine hh.mono ?_; clear hh; rintro e w' ⟨rfl, rfl⟩
    cases x
    · go_wp2_with fail
      go_ret
      exact ⟨rfl, Hb0.out⟩
    · go_wp2_with fail
      go_ret
      exact ⟨rfl, Hb0.out⟩
  · have hz : ((n : Int) == many) = false := by simpa using hn
    have hd : evenB rs many = false := by rw [evenB, hl, decide_eq_false hn, Bool.false_and]
    rw [hd]
    have Hn := Lib.hid hn
    clear hn hd hg hl hh
    go_enter Tryz.func29, Tryz.ntmps29
    go_wp2_with fail
    go_ret
    exact ⟨rfl, Hb0.out⟩

/-- What a function makes of a row: nothing that lay turns; it doesn't lie in block g. -/
def RetRow (g : Nat) (w : World) (l : List UInt8) (e : Ending) (w' : World) : Prop := ∃ A n c, e = .returned (.slice A n c) ∧ Sl w' 1 A n c (cells l) ∧ Below w.heap.size w w' ∧ ∀ b o, 0 < n → A = some ⟨b, o, none⟩ → b ≠ g

set_option maxRecDepth 20000 in
set_option maxHeartbeats 1600000 in
theorem leach_any (gf : Nat) (caps : Array Value) (of : List UInt8 → List UInt8) (A : Option Addr) (n c : Nat) (rs : List (List UInt8)) (w : World) (hg : Gr w A n c rs) (hn : n ≤ 1048576)
    (eg : ∀ args w, (callFunc gf args).run Tryz.prog w = .ok (.enter gf args) w)
    (ha : ∀ (W : World) (r : List UInt8) (A1 : Option Addr) (c1 : Nat), r ∈ rs → Below w.heap.size w W → w.heap.size < W.heap.size → Sl W 1 A1 r.length c1 (cells r) → (∀ b o, 0 < r.length → A1 = some ⟨b, o, none⟩ → b < w.heap.size) → Calls Tryz.prog gf (#[.slice A1 r.length c1] ++ caps) W (RetRow w.heap.size W (of r))) :
    Calls Tryz.prog 42 #[.slice A n c, .func (.func gf) #[] caps] w fun e w' => ∃ g, e = .returned (.slice (some ⟨g, 0, none⟩) n n) ∧ Gr w' (some ⟨g, 0, none⟩) n n (rs.map of) ∧ Below w.heap.size w w' := by
  have hmk := makes_eq (n : Int) n rfl hn
  have Hg := Lib.hid hg; clear hg
  have Ha := Lib.hid ha; clear ha
  go_enter Tryz.func42, Tryz.ntmps42
  go_wp2_with fail
  clear hmk
  go_loopw [13] (fun i wr => ∃ (k : Nat) (cur : Array Value), k ≤ n ∧ i = .int .i64 (k : Int) ∧ Enc w w.heap.size n cur ((rs.map of).take k) wr) (fun i _ => n - (intOf i).toNat)
  case atStart => exact ⟨0, _, by omega, rfl, (Below.refl _ _).alloc (Nat.le_refl _) _, Fil.made w n, Nat.le_refl _⟩
  case round =>
    obtain ⟨j, cur, hj, rfl, hE⟩ := hrel
    have E := Lib.hid hE; clear hE
    by_cases hlt : j < n
    · obtain ⟨b0, o0, rfl, hc0⟩ := Hg.out.at_ (by omega)
      obtain ⟨A5, c5, hcr5, hsr5⟩ := hc0 j _ (Hg.out.get hlt)
      obtain ⟨b, o, e1, hc⟩ := (Hg.out.later E.out.bel).at_ (by omega)
      injection e1 with e1; injection e1 with e1 e2; subst e1; subst e2
      obtain ⟨Ar, cr, hcr, hsr⟩ := hc j _ (Hg.out.get hlt)
      have hold := (Fr.of_below E.out.bel : Fr (fun _ => False) w wr).cell_some hcr5 (fun h => h)
      rw [hcr] at hold
      injection hold with hold
      injection hold with hold _ hold2
      subst hold; subst hold2
      have hjl : j < rs.length := by rw [Hg.out.len]; exact hlt
      have hlow : ∀ b o, 0 < (rs.getD j []).length → Ar = some ⟨b, o, none⟩ → b < w.heap.size := fun b o hn hA => hsr5.lt (b := b) (o := o) (by decide) hn hA
      have hh := Ha.out wr (rs.getD j []) Ar cr (List.mem_of_getElem? (Hg.out.get hlt)) E.out.bel (block_lt E.out.fil.row) hsr hlow
      have hnext : (rs.map of).take j ++ [of (rs.getD j [])] = (rs.map of).take (j + 1) := by
        rw [← List.take_append_getElem (by rw [List.length_map]; exact hjl)]
        simp [hjl]
      obtain ⟨r, hr⟩ : ∃ r, r = rs.getD j [] := ⟨_, rfl⟩
      rw [← hr] at hcr hnext hh
      obtain ⟨r2, hr2⟩ : ∃ x, x = of r := ⟨_, rfl⟩
      rw [← hr2] at hnext hh
      have Hnext := Lib.hid hnext
      have Hr2 := Lib.hid hr2
      clear hr hc hc0 hnext hr2 hsr hsr5 hcr5 hlow
      go_wp2_with fail
      refine hh.mono ?_; clear hh; rintro e w3 ⟨Ac, nc, cc, rfl, hsc, hb3, hmc⟩
      have hnc : nc = r2.length := by
        have := hsc.len
        rw [cells_length] at this
        omega
      subst hnc
      have E3 := Lib.hid (E.out.later hb3)
      have Hsc := Lib.hid hsc
      have HA := Lib.hid hmc
      obtain ⟨v0, hv0⟩ := E3.out.fil.has hlt
      have hfz := E3.out.fil.free j
      clear hsc hmc hb3 hcr E
      go_wp2_with fail
      have hf := Fr.setCell (S := fun k => k = w.heap.size) (Fr.refl _ w3) (p := ⟨w.heap.size, j, none⟩) (.inr rfl) (.slice Ac r2.length cc)
      have hst := E3.out.store (k := j) (by rw [List.length_take, List.length_map]; have := Hg.out.len; omega) hlt hf (heap_setCell_same _ w.heap.size j _ _ (.slice Ac r2.length cc) E3.out.fil.row) Hsc.out HA.out
      rw [Hnext.out] at hst
      have Hst := Lib.hid hst
      clear hf hst hv0 hfz
      go_roundw
      case rel => exact ⟨j + 1, _, by omega, by go_num, Hst.out⟩
      case measure => simp [intOf]; omega
    · obtain rfl : j = n := by omega
      have hlim := Hg.out.lim
      go_wp2_with fail
      go_ret
      have := E.out
      rw [List.take_of_length_le (by rw [List.length_map, Hg.out.len]; exact Nat.le_refl _)] at this
      exact ⟨_, rfl, this.fil.gr (by rw [List.length_map, Hg.out.len]) hlim, this.bel⟩

/-- The rows themselves, in new memory. -/
theorem eachClone_any (A : Option Addr) (n c : Nat) (rs : List (List UInt8)) (w : World) (hg : Gr w A n c rs) (hn : n ≤ 1048576) (hW : ∀ r ∈ rs, r.length ≤ 1048576) :
    Calls Tryz.prog 42 #[.slice A n c, .func (.func 26) #[] #[]] w fun e w' => ∃ g, e = .returned (.slice (some ⟨g, 0, none⟩) n n) ∧ Gr w' (some ⟨g, 0, none⟩) n n rs ∧ Below w.heap.size w w' := by
  have hh := leach_any 26 #[] (fun r => r) A n c rs w hg hn (enters_of Tryz.func26 (by kernel_rfl) rfl) (fun W r A1 c1 hr hb hlt hs hlow => by
    refine (clone_any A1 r.length c1 r W hs (hW r hr)).mono ?_
    rintro e w' ⟨A2, n2, c2, rfl, hs2, hb2, hm2⟩
    refine ⟨A2, n2, c2, rfl, hs2, hb2, fun b o h0 hA => ?_⟩
    have := Mine.bound hm2 h0 hA
    omega)
  rw [List.map_id''] at hh
  · exact hh
  · intro r; rfl

set_option maxRecDepth 20000 in
theorem head1_any (b h : Nat) (A : Option Addr) (n c : Nat) (w : World) (hb : w.cell? ⟨b, 0, none⟩ = some (.int .i64 (h : Int))) (hh : h ≤ n) (hc : n ≤ c) :
    Calls Tryz.prog 59 #[.slice A n c, .pointer (some ⟨b, 0, none⟩)] w fun e w' => e = .returned (.slice A h c) ∧ w' = w := by
  have hhc : (h : Int) ≤ (c : Int) := by omega
  have hh0 : (0 : Int) ≤ (h : Int) := by omega
  go_enter Tryz.func59, Tryz.ntmps59
  go_wp2_with fail
  go_ret
  exact ⟨by first | rfl | simp, rfl⟩
set_option maxRecDepth 20000 in
theorem tail1_any (b h : Nat) (A : Option Addr) (n c : Nat) (w : World) (hb : w.cell? ⟨b, 0, none⟩ = some (.int .i64 (h : Int))) (hh : h < n) (hc : n ≤ c) :
    Calls Tryz.prog 60 #[.slice A n c, .pointer (some ⟨b, 0, none⟩)] w fun e w' => e = .returned (.slice (A.map (·.add h)) (n - h) (c - h)) ∧ w' = w := by
  have hhc : (h : Int) ≤ (n : Int) := by omega
  have hhm : (n : Int) ≤ (c : Int) := by omega
  have hh0 : (0 : Int) ≤ (h : Int) := by omega
  have hne : c ≠ h := by omega
  go_enter Tryz.func60, Tryz.ntmps60
  go_wp2_with fail
  go_ret
  exact ⟨by first | rfl | simp [hne], rfl⟩
end Go.Proofs.YtabcmjbcnmedhaaGreat

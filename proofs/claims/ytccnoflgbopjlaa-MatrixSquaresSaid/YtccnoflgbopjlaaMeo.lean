/-
  MatrixSquares returns true, whatever its arguments. No condition. (Written by gen_meo.py.)
-/
import Derived.Test.YtccnoflgbopjlaaMem
import Derived.Test.YtccnoflgbopjlaaMei
import Derived.Test.YtccnoflgbopjlaaCau
namespace Go.Proofs.Ytccnoflgbopjlaa
open Go.RowKit Go.Proofs
set_option linter.unusedVariables false

theorem allIn_get {l : List Int} {r : Int} (h : allIn l r = true) {i : Nat} (hi : i < l.length) : 0 ≤ l.getD i 0 ∧ l.getD i 0 < r := by
  rw [allIn, List.all_eq_true] at h
  have := of_decide_eq_true (h l[i] (List.getElem_mem hi))
  have e : l.getD i 0 = l[i] := by simp [hi]
  rw [e]; exact this
theorem allIn_of {l : List Int} {r : Int} (h : ∀ i, i < l.length → withinB (l.getD i 0) r = true) : allIn l r = true := by
  rw [allIn, List.all_eq_true]
  intro z hz
  obtain ⟨j, hj, rfl⟩ := List.mem_iff_getElem.1 hz
  have := h j hj
  have e : l.getD j 0 = l[j] := by simp [hj]
  rwa [e] at this
/-- Numbers below b, none twice. -/
def DistI (l : List Int) (b : Int) : Prop := allIn l b = true ∧ ∀ i, i < l.length → ∀ j, j < i → l.getD i 0 ≠ l.getD j 0

set_option maxRecDepth 20000 in
set_option maxHeartbeats 1600000 in
theorem distinct_any (A : Option Addr) (n cp : Nat) (l : List Int) (b : Int) (w : World) (h : Sl w 1 A n cp (icells l)) :
    Calls Try.prog 27 #[.slice A n cp, .int .i64 b] w fun e w' => (∃ k, w' = w.drewN k) ∧ ∃ x : Bool, e = .returned (.bool x) ∧ (x = true → DistI l b) := by
  have hn := h.lim
  unfold maxLen at hn
  have hl := h.len
  rw [icells_length, Nat.mul_one] at hl
  have Hs := Lib.hid h; clear h
  have Hl := Lib.hid hl; clear hl
  have H0 := Lib.hid (show ∃ k, w = w.drewN k from ⟨0, rfl⟩)
  go_enter Try.func27, Try.ntmps27
  go_wp2_with fail
  go_loopw [5] (fun i wr => ∃ a : Nat, a ≤ n ∧ i = .int .i64 (a : Int) ∧ (∃ k, wr = w.drewN k) ∧ (∀ i, i < a → withinB (l.getD i 0) b = true) ∧ ∀ i, i < a → ∀ j, j < i → l.getD i 0 ≠ l.getD j 0) (fun i _ => n - (intOf i).toNat)
  case atStart => exact ⟨0, by omega, rfl, H0.out, fun i hi => absurd hi (by omega), fun i hi => absurd hi (by omega)⟩
  case round =>
    obtain ⟨a, ha, rfl, hw, h1, h2⟩ := hrel
    have Hw := Lib.hid hw; clear hw
    have H1 := Lib.hid h1; clear h1
    have H2 := Lib.hid h2; clear h2
    by_cases hlt : a < n
    · have hal : a < l.length := by rw [Hl.out]; exact hlt
      obtain ⟨b1, o1, rfl, hc⟩ := Hs.out.at_ hlt
      have hz : l.getD a 0 = l[a] := by simp [hal]
      have hcell : wr.cell? ⟨b1, o1 + a, none⟩ = some (.int .i64 (l.getD a 0)) := by
        obtain ⟨k, hk⟩ := Hw.out
        rw [hk, hz]
        exact hc a _ (icells_get l a hal)
      have Hc := Lib.hid hc; clear hc
      obtain ⟨z, hzz⟩ : ∃ z, z = l.getD a 0 := ⟨_, rfl⟩
      rw [← hzz] at hcell
      have Hz := Lib.hid hzz; clear hzz hz
      by_cases hz0 : z < 0
      · have d1 : decide (z < 0) = true := by simpa using hz0
        clear hz0
        go_wp2_with fail
        go_ret
        exact ⟨Hw.out, false, rfl, fun h => by cases h⟩
      · have d1 : decide (z < 0) = false := by simpa using hz0
        by_cases hzb : z ≥ b
        · have d2 : decide (z ≥ b) = true := by simpa using hzb
          clear hz0 hzb
          go_wp2_with fail
          go_ret
          exact ⟨Hw.out, false, rfl, fun h => by cases h⟩
        · have d2 : decide (z ≥ b) = false := by simpa using hzb
          have Hin := Lib.hid (withinB_t (i := z) (n := b) ⟨by omega, by omega⟩)
          clear hz0 hzb
          go_wp2_with fail
          go_loopw [6] (fun i wi => ∃ c : Nat, c ≤ a ∧ i = .int .i64 (c : Int) ∧ (∃ k, wi = w.drewN k) ∧ ∀ j, j < c → z ≠ l.getD j 0) (fun i _ => a - (intOf i).toNat)
          case atStart => exact ⟨0, by omega, rfl, Hw.out, fun j hj => absurd hj (by omega)⟩
          case round =>
            obtain ⟨c, hca, rfl, hw3, h3⟩ := hrel
            have Hw3 := Lib.hid hw3; clear hw3
            have H3 := Lib.hid h3; clear h3
            by_cases hct : c < a
            · have hcl : c < l.length := by omega
              have hy : l.getD c 0 = l[c] := by simp [hcl]
              have hcellc : wr.cell? ⟨b1, o1 + c, none⟩ = some (.int .i64 (l.getD c 0)) := by
                obtain ⟨k, hk⟩ := Hw3.out
                rw [hk, hy]
                exact Hc.out c _ (icells_get l c hcl)
              have hcella : wr.cell? ⟨b1, o1 + a, none⟩ = some (.int .i64 z) := by
                obtain ⟨k, hk⟩ := Hw3.out
                rw [hk, Hz.out, show l.getD a 0 = l[a] by simp [hal]]
                exact Hc.out a _ (icells_get l a hal)
              obtain ⟨y, hyy⟩ : ∃ y, y = l.getD c 0 := ⟨_, rfl⟩
              rw [← hyy] at hcellc
              have Hy := Lib.hid hyy; clear hyy hy
              by_cases he : z = y
              · have d3 : (z == y) = true := by simpa using he
                clear he
                go_wp2_with fail
                go_quiet (fail)
                go_wp2_with fail
                go_ret
                refine ⟨?_, false, rfl, fun h => by cases h⟩
                obtain ⟨k, hk⟩ := Hw3.out
                exact ⟨k + nq, by rw [hk, World.drewN_drewN]⟩
              · have d3 : (z == y) = false := by simpa using he
                have He := Lib.hid he; clear he
                go_wp2_with fail
                go_quiet (fail)
                go_wp2_with fail
                go_roundw
                case rel =>
                  refine ⟨c + 1, by omega, by go_num, ?_, fun j hj => ?_⟩
                  · obtain ⟨k, hk⟩ := Hw3.out
                    exact ⟨k + nq, by rw [hk, World.drewN_drewN]⟩
                  · by_cases hjc : j = c
                    · rw [hjc, ← Hy.out]; exact He.out
                    · exact H3.out j (by omega)
                case measure => simp [intOf]; omega
            · obtain rfl : c = a := by omega
              go_wp2_with fail
              go_roundw
              case rel =>
                refine ⟨c + 1, by omega, by go_num, Hw3.out, fun i hi => ?_, fun i hi j hj => ?_⟩
                · by_cases hic : i = c
                  · rw [hic, ← Hz.out]; exact Hin.out
                  · exact H1.out i (by omega)
                · by_cases hic : i = c
                  · rw [hic, ← Hz.out]; exact H3.out j (by omega)
                  · exact H2.out i (by omega) j hj
              case measure => simp [intOf]; omega
    · obtain rfl : a = n := by omega
      go_wp2_with fail
      go_ret
      exact ⟨Hw.out, true, rfl, fun _ => ⟨allIn_of fun i hi => H1.out i (by rw [← Hl.out]; exact hi), fun i hi => H2.out i (by rw [← Hl.out]; exact hi)⟩⟩

theorem once_nodup {l1 l2 : List UInt8} (h : twiceB (l1 ++ l2) = false) : l1.Nodup ∧ l2.Nodup := by
  have hn : (l1 ++ l2).Nodup := Decidable.byContradiction fun hh => by
    have := of_decide_eq_false h
    exact this hh
  rw [List.nodup_append] at hn
  exact ⟨hn.1, hn.2.1⟩
theorem nodup_getD {l : List UInt8} (h : l.Nodup) {a b : Nat} (ha : a < l.length) (hb : b < l.length) (hab : a ≠ b) : l.getD a 0 ≠ l.getD b 0 := by
  intro e
  have e2 : l[a] = l[b] := by simpa [ha, hb] using e
  exact hab ((List.getElem_inj h).1 e2)
/-- The numbers that a list of places names. -/
def named (l : List UInt8) (rows : List Int) (i : Nat) : UInt8 := l.getD (rows.getD i 0).toNat 0
theorem named_ne {l : List UInt8} (h : l.Nodup) {rows : List Int} (hd : DistI rows (l.length : Int)) {i j : Nat} (hi : i < rows.length) (hj : j < rows.length) (hij : i ≠ j) : named l rows i ≠ named l rows j := by
  have h1 := allIn_get hd.1 hi
  have h2 := allIn_get hd.1 hj
  have h3 : rows.getD i 0 ≠ rows.getD j 0 := by
    rcases Nat.lt_or_ge j i with hlt | hge
    · exact hd.2 i hi j hlt
    · exact fun e => hd.2 j hj i (by omega) e.symm
  exact nodup_getD h (by omega) (by omega) (by omega)
/-- A square of a Cauchy matrix, turned: what stands in it; its inverse. -/
def squareM (xs ys : List UInt8) (rows cols : List Int) : Mx := fun i j => ginv (named xs rows j ^^^ named ys cols i)
theorem square_inj {xs ys : List UInt8} (h : twiceB (xs ++ ys) = false) {rows cols : List Int} {n : Nat} (hr : rows.length = n) (hc : cols.length = n) (dr : DistI rows (xs.length : Int)) (dc : DistI cols (ys.length : Int)) :
    ∃ Y : Mx, Alike n n (mm n Y (squareM xs ys rows cols)) one := by
  obtain ⟨hx, hy⟩ := once_nodup h
  have hi : Inj n (fun i j => ginv (named ys cols i ^^^ named xs rows j)) := cauchy_inj (x := named ys cols) (y := named xs rows)
    (fun i hi j hj => named_ne hy dc (by omega) (by omega) (by omega)) (fun i hi j hj hij => named_ne hx dr (by omega) (by omega) hij)
    (fun i hi j hj e => by
      have h1 := allIn_get dc.1 (i := i) (by omega)
      have h2 := allIn_get dr.1 (i := j) (by omega)
      refine once_ne h (i := (rows.getD j 0).toNat) (j := (cols.getD i 0).toNat) (by omega) (by omega) ?_
      have e' : ys.getD (cols.getD i 0).toNat 0 = xs.getD (rows.getD j 0).toNat 0 := e
      rw [← e', uxx])
  obtain ⟨C, hC⟩ := inj_right hi
  refine ⟨C, inverse_both fun i hi' j hj => ?_⟩
  rw [← hC i hi' j hj]
  exact xs_congr n fun k _ => by
    show gm (ginv (named xs rows k ^^^ named ys cols i)) (C k j) = gm (ginv (named ys cols i ^^^ named xs rows k)) (C k j)
    rw [UInt8.xor_comm]

/-- What Cauchy makes of xs and ys. -/
def CauR (xs ys : List UInt8) (o : M3) (x : Int) : Prop := (twiceB (xs ++ ys) = false ∧ o.Is xs.length ys.length (cauM xs ys) ∧ x = 0) ∨ (o = M3.none ∧ x = 2)
theorem cau_all (F T : Nat) (A1 : Option Addr) (c1 : Nat) (xs : List UInt8) (A2 : Option Addr) (c2 : Nat) (ys : List UInt8) (w : World) (h : Fld w F T) (s1 : MxAt w T A1 xs.length c1 xs) (s2 : MxAt w T A2 ys.length c2 ys) :
    Calls Try.prog 28 #[.pointer (some ⟨F, 0, none⟩), .slice A1 xs.length c1, .slice A2 ys.length c2] w fun e w' => RetM T (CauR xs ys) w e w' ∧ Fld1 w' F T ∧ Fr (Ft T) w w' := by
  have hT := h.ltT
  by_cases hok : fitsB xs.length = true ∧ fitsB ys.length = true ∧ twiceB (xs ++ ys) = false
  · obtain ⟨h1, h2, h3⟩ := hok
    have g1 := of_decide_eq_true h1
    have g2 := of_decide_eq_true h2
    refine (cauchy_yes F T A1 _ c1 xs A2 _ c2 ys w h s1 s2 (by omega) (by omega) h3).mono ?_
    rintro e w' ⟨hr, hf, hfr⟩
    exact ⟨RetM.yes hr hT (.inl ⟨h3, M3.is_of (by omega) (by omega) (by omega) (by omega), rfl⟩), hf, hfr⟩
  · refine (cauchy_no F T A1 _ c1 xs A2 _ c2 ys w h s1 s2 hok).mono ?_
    rintro e w' ⟨he, hf, hfr⟩
    exact ⟨RetM.no (x := 2) he (.inr ⟨rfl, rfl⟩), hf, hfr⟩
theorem RetN.yes {R : M3 → Int → Prop} {e : Ending} {w w' : World} {n c : Nat} {f : Mx} (h : RetOk n c (tabL n c f) w e w') (hb : Below w.heap.size w w') (hR : R (M3.of n c f) 0) : RetN R w e w' := by
  obtain ⟨A, cp, rfl, hg⟩ := h
  exact ⟨⟨M3.of n c f, A, cp, 0, by show _ = Ending.returned (.tuple #[.agg #[.int .i64 (n : Int), .int .i64 (c : Int), .slice A (tabL n c f).length cp], .int .i64 0]); rw [tabL_length], by show Grow w' w.heap.size A (tabL n c f).length cp (tabL n c f); rw [tabL_length]; exact hg, hR⟩, hb⟩
theorem pick_of {m : M3} {R C : Nat} {f : Mx} (hM : m.Is R C f) (P : Option Addr) (p : Nat) (A : Option Addr) (cp : Nat) (rows : List Int) (w : World) (s1 : Sl w 1 P m.l.length p (cells m.l)) (s2 : Sl w 1 A rows.length cp (icells rows)) (h2 : 1 ≤ rows.length ∧ rows.length ≤ 255) (h3 : allIn rows m.r = true) :
    Calls Try.prog 11 #[.agg #[.int .i64 m.r, .int .i64 m.c, .slice P m.l.length p], .slice A rows.length cp] w (RetN (fun o x => o.Is rows.length C (fun i j => f (rows.getD i 0).toNat j) ∧ x = 0) w) := by
  have h1 := hM.ok
  have hM0 := hM
  rw [M3.ok, hM.r, hM.c] at h1
  rw [hM.r] at h3
  rw [hM.r, hM.c]
  refine (pick_yes R C P _ p m.l A _ cp rows w s1 s2 h1 hM.c2 h2 h3).mono ?_
  rintro e w' ⟨hr, hb⟩
  refine RetN.yes hr hb ⟨(M3.is_of h2.1 h2.2 hM.c1 hM.c2).congr fun i hi j hj => ?_, rfl⟩
  have hz := allIn_get h3 hi
  obtain ⟨I, hI⟩ := Int.eq_ofNat_of_zero_le hz.1
  have hIR : I < R := by omega
  have := atR_in hM0 hIR hj
  rw [hM.r, hM.c] at this
  show atR (R : Int) (C : Int) m.l.length m.l (rows.getD i 0) (j : Int) = f (rows.getD i 0).toNat j
  rw [hI]
  rw [this, hM0.mx I hIR j hj]
  rfl
theorem idn_of (n : Nat) (h1 : 1 ≤ n) (h2 : n ≤ 255) (w : World) :
    Calls Try.prog 18 #[.int .i64 (n : Int)] w (RetN (fun o x => o.Is n n one ∧ x = 0) w) :=
  (identity_yes n h1 h2 w).mono fun e w' ⟨hr, hb⟩ => RetN.yes hr hb ⟨M3.is_of h1 h2 h1 h2, rfl⟩

theorem is_own {m : M3} {R C : Nat} {f : Mx} (h : m.Is R C f) : m.Is R C (mx C m.l) := h.congr fun i hi j hj => (h.mx i hi j hj).symm
theorem sq_is {xs ys : List UInt8} {rows cols : List Int} {a o b : M3} (hlen : rows.length = cols.length) (hA : a.Is rows.length ys.length (fun i j => cauM xs ys (rows.getD i 0).toNat j)) (ho : o = M3.of ys.length rows.length (fun j i => mx ys.length a.l i j))
    (hB : ∀ f, o.Is ys.length rows.length f → b.Is cols.length rows.length (fun i j => f (cols.getD i 0).toNat j)) (hc : allIn cols (ys.length : Int) = true) : b.Is rows.length rows.length (squareM xs ys rows cols) := by
  have h1 : o.Is ys.length rows.length (fun j i => mx ys.length a.l i j) := by rw [ho]; exact M3.is_of hA.c1 hA.c2 hA.r1 hA.r2
  have h2 := hB _ h1
  rw [← hlen] at h2
  refine h2.congr fun i hi j hj => ?_
  have hz := allIn_get hc (i := i) (by omega)
  exact hA.mx j hj (cols.getD i 0).toNat (by omega)
theorem argB {w w' : World} {T : Nat} {l : List UInt8} {A : Option Addr} {cp : Nat} (hs : Sl w 1 A l.length cp (cells l)) (hb : Below w.heap.size w w') (hT : w.heap.size ≤ T) : MxAt w' T A l.length cp l :=
  ⟨hs.below hb (Nat.le_refl _), fun b o hn hA => by have := hs.lt (by decide) hn hA; omega⟩

set_option maxRecDepth 20000 in
set_option maxHeartbeats 6400000 in
theorem matrixSquares_walk (xs ys : List UInt8) (rows cols : List Int) (A1 A2 A3 A4 : Option Addr) (p1 p2 p3 p4 : Nat) (w : World) (s1 : Sl w 1 A1 xs.length p1 (cells xs)) (s2 : Sl w 1 A2 ys.length p2 (cells ys)) (s3 : Sl w 1 A3 rows.length p3 (icells rows)) (s4 : Sl w 1 A4 cols.length p4 (icells cols)) :
    Calls Try.prog 7 #[.slice A1 xs.length p1, .slice A2 ys.length p2, .slice A3 rows.length p3, .slice A4 cols.length p4] w (SaysTrue w) := by
  have l1 := s1.lim
  have l2 := s2.lim
  have l3 := s3.lim
  have l4 := s4.lim
  unfold maxLen at l1 l2 l3 l4
  have K1 := Lib.hid s1; clear s1
  have K2 := Lib.hid s2; clear s2
  have K3 := Lib.hid s3; clear s3
  have K4 := Lib.hid s4; clear s4
  by_cases h0 : xs.length > 20
  · have d0 : decide ((xs.length : Int) > 20) = true := by simp; omega
    go_enter Try.func7, Try.ntmps7
    go_wp2_with fail
    refine (stands_any _).mono ?_; rintro e w1 ⟨rfl, hb⟩
    go_wp2_with fail
    go_ret
    exact ⟨rfl, hb⟩
  have d0 : decide ((xs.length : Int) > 20) = false := by simp; omega
  by_cases h1 : ys.length > 20
  · have d1 : decide ((ys.length : Int) > 20) = true := by simp; omega
    go_enter Try.func7, Try.ntmps7
    go_wp2_with fail
    refine (stands_any _).mono ?_; rintro e w1 ⟨rfl, hb⟩
    go_wp2_with fail
    go_ret
    exact ⟨rfl, hb⟩
  have d1 : decide ((ys.length : Int) > 20) = false := by simp; omega
  by_cases h2 : rows.length > 10
  · have d2 : decide ((rows.length : Int) > 10) = true := by simp; omega
    go_enter Try.func7, Try.ntmps7
    go_wp2_with fail
    refine (stands_any _).mono ?_; rintro e w1 ⟨rfl, hb⟩
    go_wp2_with fail
    go_ret
    exact ⟨rfl, hb⟩
  have d2 : decide ((rows.length : Int) > 10) = false := by simp; omega
  by_cases h3 : rows.length = 0
  · have d3 : ((rows.length : Int) == 0) = true := beq_iff_eq.2 (by omega)
    go_enter Try.func7, Try.ntmps7
    go_wp2_with fail
    refine (stands_any _).mono ?_; rintro e w1 ⟨rfl, hb⟩
    go_wp2_with fail
    go_ret
    exact ⟨rfl, hb⟩
  have d3 : ((rows.length : Int) == 0) = false := beq_eq_false_iff_ne.2 (by omega)
  by_cases h4 : rows.length ≠ cols.length
  · have d4 : ((rows.length : Int) != (cols.length : Int)) = true := bne_iff_ne.2 (by omega)
    go_enter Try.func7, Try.ntmps7
    go_wp2_with fail
    refine (stands_any _).mono ?_; rintro e w1 ⟨rfl, hb⟩
    go_wp2_with fail
    go_ret
    exact ⟨rfl, hb⟩
  have d4 : ((rows.length : Int) != (cols.length : Int)) = false := by rw [bne, Bool.not_eq_false']; exact beq_iff_eq.2 (by omega)
  have Hlen := Lib.hid (show rows.length = cols.length by omega)
  have g0 : 1 ≤ rows.length ∧ rows.length ≤ 10 := by omega
  have Hg := Lib.hid g0; clear g0
  clear h4 h3 h2 h1 h0
  go_enter Try.func7, Try.ntmps7
  go_wp2_with fail
  have hh := distinct_any A3 rows.length p3 rows (xs.length : Int) w K3.out
  refine hh.mono ?_; clear hh; rintro e w1 ⟨hw1, x1, rfl, hd1⟩
  have hb1 : Below w.heap.size w w1 := by obtain ⟨k, rfl⟩ := hw1; exact below_drewN (Below.refl _ _) k
  have Hb1 := Lib.hid hb1; clear hw1 hb1
  rcases x1 with _ | _
  · clear hd1
    go_wp2_with fail
    refine (stands_any _).mono ?_; rintro e w2 ⟨rfl, hb⟩
    go_wp2_with fail
    go_ret
    exact ⟨rfl, Hb1.out.trans (hb.mono Hb1.out.size)⟩
  have D1 := Lib.hid (hd1 rfl); clear hd1
  go_wp2_with fail
  have hh := distinct_any A4 cols.length p4 cols (ys.length : Int) w1 (K4.out.below Hb1.out (Nat.le_refl _))
  refine hh.mono ?_; clear hh; rintro e w2 ⟨hw2, x2, rfl, hd2⟩
  have hb2 : Below w.heap.size w w2 := by obtain ⟨k, rfl⟩ := hw2; exact below_drewN Hb1.out k
  have Hb2 := Lib.hid hb2; clear hw2 hb2 Hb1
  rcases x2 with _ | _
  · clear hd2
    go_wp2_with fail
    refine (stands_any _).mono ?_; rintro e w3 ⟨rfl, hb⟩
    go_wp2_with fail
    go_ret
    exact ⟨rfl, Hb2.out.trans (hb.mono Hb2.out.size)⟩
  have D2 := Lib.hid (hd2 rfl); clear hd2
  go_wp2_with fail
  refine (new_any _).mono ?_; rintro e w3 ⟨rfl, hf, hb⟩
  have S0 := Lib.hid (show St w (w2.heap.size + 1) w2.heap.size [] w3 from ⟨⟨Hb2.out.trans (hb.mono Hb2.out.size), hf, Hb2.out.size⟩, fun v hv => by cases hv⟩)
  clear hf hb
  go_wp2_with fail
  have hh := cau_all (w2.heap.size + 1) w2.heap.size A1 p1 xs A2 p2 ys (w3) S0.out.inn.fld (argB K1.out S0.out.inn.below Hb2.out.size) (argB K2.out S0.out.inn.below Hb2.out.size)
  refine hh.mono ?_; clear hh; rintro e w11 ⟨⟨m11, A11, cp11, x11, rfl, hm, hR, _⟩, hf, hr⟩
  have R1 := Lib.hid hR; clear hR
  have S11 := Lib.hid ((S0.out.call hf hr).add m11 A11 cp11 hm)
  have bz11 := hr.size
  clear hm hf hr S0
  rw [M3.v]
  rcases R1.out with ⟨h3, hM, hx⟩ | ⟨ho, hx⟩
  · subst hx
    have H3 := Lib.hid h3; clear h3
    have HM := Lib.hid hM; clear hM
    have q12_0 : (w11.alloc (.cells #[.int .i64 m11.r, .int .i64 m11.c, .slice A11 m11.l.length cp11] 24)).cell? ⟨w11.heap.size, 0, none⟩ = some (.int .i64 m11.r) := S11.out.c0 (v := ⟨w11.heap.size, m11, A11, cp11⟩) (List.mem_iff_getElem?.2 ⟨0, rfl⟩)
    have q12_1 : (w11.alloc (.cells #[.int .i64 m11.r, .int .i64 m11.c, .slice A11 m11.l.length cp11] 24)).cell? ⟨w11.heap.size, 1, none⟩ = some (.int .i64 m11.c) := S11.out.c1 (v := ⟨w11.heap.size, m11, A11, cp11⟩) (List.mem_iff_getElem?.2 ⟨0, rfl⟩)
    have q12_2 : (w11.alloc (.cells #[.int .i64 m11.r, .int .i64 m11.c, .slice A11 m11.l.length cp11] 24)).cell? ⟨w11.heap.size, 2, none⟩ = some (.slice A11 m11.l.length cp11) := S11.out.c2 (v := ⟨w11.heap.size, m11, A11, cp11⟩) (List.mem_iff_getElem?.2 ⟨0, rfl⟩)
    go_wp2_with fail
    have hT13 := S11.out.inn.fld.ltT
    have hh := pick_of HM.out A11 cp11 A3 p3 rows (w11.alloc (.cells #[.int .i64 m11.r, .int .i64 m11.c, .slice A11 m11.l.length cp11] 24)) (S11.out.vars ⟨w11.heap.size, m11, A11, cp11⟩ (List.mem_iff_getElem?.2 ⟨0, rfl⟩)).mx.sl (K3.out.below S11.out.inn.below (Nat.le_refl _)) (by have := Hg.out; omega) (by rw [HM.out.r]; exact D1.out.1)
    refine hh.mono ?_; clear hh; rintro e w13 ⟨⟨m13, A13, cp13, x13, rfl, hg, hR⟩, hb⟩
    have R2 := Lib.hid hR; clear hR
    have S13 := Lib.hid ((S11.out.later hb).add m13 A13 cp13 (hg.at_ hT13))
    clear q12_0 q12_1 q12_2
    clear hg hb S11
    rw [M3.v]
    obtain ⟨hA, e2⟩ := R2.out
    subst e2
    have HA := Lib.hid hA; clear hA
    have q14_0 : (w13.alloc (.cells #[.int .i64 m13.r, .int .i64 m13.c, .slice A13 m13.l.length cp13] 24)).cell? ⟨w13.heap.size, 0, none⟩ = some (.int .i64 m13.r) := S13.out.c0 (v := ⟨w13.heap.size, m13, A13, cp13⟩) (List.mem_iff_getElem?.2 ⟨0, rfl⟩)
    have q14_1 : (w13.alloc (.cells #[.int .i64 m13.r, .int .i64 m13.c, .slice A13 m13.l.length cp13] 24)).cell? ⟨w13.heap.size, 1, none⟩ = some (.int .i64 m13.c) := S13.out.c1 (v := ⟨w13.heap.size, m13, A13, cp13⟩) (List.mem_iff_getElem?.2 ⟨0, rfl⟩)
    have q14_2 : (w13.alloc (.cells #[.int .i64 m13.r, .int .i64 m13.c, .slice A13 m13.l.length cp13] 24)).cell? ⟨w13.heap.size, 2, none⟩ = some (.slice A13 m13.l.length cp13) := S13.out.c2 (v := ⟨w13.heap.size, m13, A13, cp13⟩) (List.mem_iff_getElem?.2 ⟨0, rfl⟩)
    go_wp2_with fail
    have hh := rturned_any m13 A13 cp13 (w13.alloc (.cells #[.int .i64 m13.r, .int .i64 m13.c, .slice A13 m13.l.length cp13] 24)) (S13.out.vars ⟨w13.heap.size, m13, A13, cp13⟩ (List.mem_iff_getElem?.2 ⟨0, rfl⟩)).mx.sl rows.length ys.length (is_own HA.out)
    refine hh.mono ?_; clear hh; rintro e w15 ⟨o, Ao, cpo, rfl, hg, ho, hb⟩
    have Ho := Lib.hid ho; clear ho
    have Hsl := Lib.hid hg.own.sl; clear hg
    have S15 := Lib.hid (S13.out.later hb); clear hb S13 q14_0 q14_1 q14_2
    rw [M3.v]
    have HO := Lib.hid (show o.Is ys.length rows.length (fun j i => mx ys.length m13.l i j) by rw [Ho.out]; exact M3.is_of HA.out.c1 HA.out.c2 HA.out.r1 HA.out.r2)
    go_wp2_with fail
    have hT16 := S15.out.inn.fld.ltT
    have hh := pick_of HO.out Ao cpo A4 p4 cols (w15) Hsl.out (K4.out.below S15.out.inn.below (Nat.le_refl _)) (by have := Hg.out; have := Hlen.out; omega) (by rw [HO.out.r]; exact D2.out.1)
    refine hh.mono ?_; clear hh; rintro e w16 ⟨⟨m16, A16, cp16, x16, rfl, hg, hR⟩, hb⟩
    have R3 := Lib.hid hR; clear hR
    have S16 := Lib.hid ((S15.out.later hb).add m16 A16 cp16 (hg.at_ hT16))
    clear hg hb S15
    rw [M3.v]
    obtain ⟨hB, e3⟩ := R3.out
    subst e3
    have HB := Lib.hid (sq_is (xs := xs) Hlen.out HA.out Ho.out (fun f hf => hB.congr fun i hi j hj => by have hz := allIn_get D2.out.1 hi; have e1 := HO.out.mx (cols.getD i 0).toNat (by omega) j hj; have e2 := hf.mx (cols.getD i 0).toNat (by omega) j hj; exact e1.symm.trans e2) D2.out.1); clear hB
    obtain ⟨Y, hY⟩ := square_inj H3.out rfl Hlen.out.symm D1.out D2.out
    have HY := Lib.hid hY; clear hY
    have q17_0 : (w16.alloc (.cells #[.int .i64 m16.r, .int .i64 m16.c, .slice A16 m16.l.length cp16] 24)).cell? ⟨w16.heap.size, 0, none⟩ = some (.int .i64 m16.r) := S16.out.c0 (v := ⟨w16.heap.size, m16, A16, cp16⟩) (List.mem_iff_getElem?.2 ⟨0, rfl⟩)
    have q17_1 : (w16.alloc (.cells #[.int .i64 m16.r, .int .i64 m16.c, .slice A16 m16.l.length cp16] 24)).cell? ⟨w16.heap.size, 1, none⟩ = some (.int .i64 m16.c) := S16.out.c1 (v := ⟨w16.heap.size, m16, A16, cp16⟩) (List.mem_iff_getElem?.2 ⟨0, rfl⟩)
    have q17_2 : (w16.alloc (.cells #[.int .i64 m16.r, .int .i64 m16.c, .slice A16 m16.l.length cp16] 24)).cell? ⟨w16.heap.size, 2, none⟩ = some (.slice A16 m16.l.length cp16) := S16.out.c2 (v := ⟨w16.heap.size, m16, A16, cp16⟩) (List.mem_iff_getElem?.2 ⟨0, rfl⟩)
    go_wp2_with fail
    have hh := inv_all (w2.heap.size + 1) w2.heap.size m16 A16 cp16 (w16.alloc (.cells #[.int .i64 m16.r, .int .i64 m16.c, .slice A16 m16.l.length cp16] 24)) S16.out.inn.fld (S16.out.vars ⟨w16.heap.size, m16, A16, cp16⟩ (List.mem_iff_getElem?.2 ⟨0, rfl⟩)).mx
    refine hh.mono ?_; clear hh; rintro e w18 ⟨⟨m18, A18, cp18, x18, rfl, hm, hR, _⟩, hf, hr⟩
    have R4 := Lib.hid hR; clear hR
    have S18 := Lib.hid ((S16.out.call hf hr).add m18 A18 cp18 hm)
    have bz18 := hr.size
    clear q17_0 q17_1 q17_2
    clear hm hf hr S16
    rw [M3.v]
    obtain ⟨e4, hX⟩ := R4.out.go HB.out HY.out
    subst e4
    have HX := Lib.hid hX; clear hX
    go_wp2_with fail
    have hT19 := S18.out.inn.fld.ltT
    have hh := idn_of rows.length (by have := Hg.out; omega) (by have := Hg.out; omega) (w18.alloc (.cells #[.int .i64 m18.r, .int .i64 m18.c, .slice A18 m18.l.length cp18] 24))
    refine hh.mono ?_; clear hh; rintro e w19 ⟨⟨m19, A19, cp19, x19, rfl, hg, hR⟩, hb⟩
    have R5 := Lib.hid hR; clear hR
    have S19 := Lib.hid ((S18.out.later hb).add m19 A19 cp19 (hg.at_ hT19))
    clear hg hb S18
    rw [M3.v]
    have q20_0 : (w19.alloc (.cells #[.int .i64 m19.r, .int .i64 m19.c, .slice A19 m19.l.length cp19] 24)).cell? ⟨w16.heap.size, 0, none⟩ = some (.int .i64 m16.r) := S19.out.c0 (v := ⟨w16.heap.size, m16, A16, cp16⟩) (List.mem_iff_getElem?.2 ⟨2, rfl⟩)
    have q20_1 : (w19.alloc (.cells #[.int .i64 m19.r, .int .i64 m19.c, .slice A19 m19.l.length cp19] 24)).cell? ⟨w16.heap.size, 1, none⟩ = some (.int .i64 m16.c) := S19.out.c1 (v := ⟨w16.heap.size, m16, A16, cp16⟩) (List.mem_iff_getElem?.2 ⟨2, rfl⟩)
    have q20_2 : (w19.alloc (.cells #[.int .i64 m19.r, .int .i64 m19.c, .slice A19 m19.l.length cp19] 24)).cell? ⟨w16.heap.size, 2, none⟩ = some (.slice A16 m16.l.length cp16) := S19.out.c2 (v := ⟨w16.heap.size, m16, A16, cp16⟩) (List.mem_iff_getElem?.2 ⟨2, rfl⟩)
    have q21_0 : (w19.alloc (.cells #[.int .i64 m19.r, .int .i64 m19.c, .slice A19 m19.l.length cp19] 24)).cell? ⟨w18.heap.size, 0, none⟩ = some (.int .i64 m18.r) := S19.out.c0 (v := ⟨w18.heap.size, m18, A18, cp18⟩) (List.mem_iff_getElem?.2 ⟨1, rfl⟩)
    have q21_1 : (w19.alloc (.cells #[.int .i64 m19.r, .int .i64 m19.c, .slice A19 m19.l.length cp19] 24)).cell? ⟨w18.heap.size, 1, none⟩ = some (.int .i64 m18.c) := S19.out.c1 (v := ⟨w18.heap.size, m18, A18, cp18⟩) (List.mem_iff_getElem?.2 ⟨1, rfl⟩)
    have q21_2 : (w19.alloc (.cells #[.int .i64 m19.r, .int .i64 m19.c, .slice A19 m19.l.length cp19] 24)).cell? ⟨w18.heap.size, 2, none⟩ = some (.slice A18 m18.l.length cp18) := S19.out.c2 (v := ⟨w18.heap.size, m18, A18, cp18⟩) (List.mem_iff_getElem?.2 ⟨1, rfl⟩)
    go_wp2_with fail
    have hh := mul_all (w2.heap.size + 1) w2.heap.size m16 m18 A16 A18 cp16 cp18 (w19.alloc (.cells #[.int .i64 m19.r, .int .i64 m19.c, .slice A19 m19.l.length cp19] 24)) S19.out.inn.fld (S19.out.vars ⟨w16.heap.size, m16, A16, cp16⟩ (List.mem_iff_getElem?.2 ⟨2, rfl⟩)).mx (S19.out.vars ⟨w18.heap.size, m18, A18, cp18⟩ (List.mem_iff_getElem?.2 ⟨1, rfl⟩)).mx
    refine hh.mono ?_; clear hh; rintro e w22 ⟨⟨m22, A22, cp22, x22, rfl, hm, hR, _⟩, hf, hr⟩
    have R6 := Lib.hid hR; clear hR
    have S22 := Lib.hid ((S19.out.call hf hr).add m22 A22 cp22 hm)
    have bz22 := hr.size
    clear q20_0 q20_1 q20_2 q21_0 q21_1 q21_2
    clear hm hf hr S19
    rw [M3.v]
    obtain ⟨e6, hy⟩ := R6.out.go HB.out HX.out
    subst e6
    have E1 := Lib.hid (hy.same R5.out.1 (inverse_both HY.out)); clear hy
    have q23_0 : (w22.alloc (.cells #[.int .i64 m22.r, .int .i64 m22.c, .slice A22 m22.l.length cp22] 24)).cell? ⟨w22.heap.size, 0, none⟩ = some (.int .i64 m22.r) := S22.out.c0 (v := ⟨w22.heap.size, m22, A22, cp22⟩) (List.mem_iff_getElem?.2 ⟨0, rfl⟩)
    have q23_1 : (w22.alloc (.cells #[.int .i64 m22.r, .int .i64 m22.c, .slice A22 m22.l.length cp22] 24)).cell? ⟨w22.heap.size, 1, none⟩ = some (.int .i64 m22.c) := S22.out.c1 (v := ⟨w22.heap.size, m22, A22, cp22⟩) (List.mem_iff_getElem?.2 ⟨0, rfl⟩)
    have q23_2 : (w22.alloc (.cells #[.int .i64 m22.r, .int .i64 m22.c, .slice A22 m22.l.length cp22] 24)).cell? ⟨w22.heap.size, 2, none⟩ = some (.slice A22 m22.l.length cp22) := S22.out.c2 (v := ⟨w22.heap.size, m22, A22, cp22⟩) (List.mem_iff_getElem?.2 ⟨0, rfl⟩)
    have q24_0 : (w22.alloc (.cells #[.int .i64 m22.r, .int .i64 m22.c, .slice A22 m22.l.length cp22] 24)).cell? ⟨w19.heap.size, 0, none⟩ = some (.int .i64 m19.r) := S22.out.c0 (v := ⟨w19.heap.size, m19, A19, cp19⟩) (List.mem_iff_getElem?.2 ⟨1, rfl⟩)
    have q24_1 : (w22.alloc (.cells #[.int .i64 m22.r, .int .i64 m22.c, .slice A22 m22.l.length cp22] 24)).cell? ⟨w19.heap.size, 1, none⟩ = some (.int .i64 m19.c) := S22.out.c1 (v := ⟨w19.heap.size, m19, A19, cp19⟩) (List.mem_iff_getElem?.2 ⟨1, rfl⟩)
    have q24_2 : (w22.alloc (.cells #[.int .i64 m22.r, .int .i64 m22.c, .slice A22 m22.l.length cp22] 24)).cell? ⟨w19.heap.size, 2, none⟩ = some (.slice A19 m19.l.length cp19) := S22.out.c2 (v := ⟨w19.heap.size, m19, A19, cp19⟩) (List.mem_iff_getElem?.2 ⟨1, rfl⟩)
    go_wp2_with fail
    have hh := same_yes m22 m19 A22 A19 cp22 cp19 (w22.alloc (.cells #[.int .i64 m22.r, .int .i64 m22.c, .slice A22 m22.l.length cp22] 24)) (S22.out.vars ⟨w22.heap.size, m22, A22, cp22⟩ (List.mem_iff_getElem?.2 ⟨0, rfl⟩)).mx.sl (S22.out.vars ⟨w19.heap.size, m19, A19, cp19⟩ (List.mem_iff_getElem?.2 ⟨1, rfl⟩)).mx.sl E1.out
    refine hh.mono ?_; clear hh; rintro e w25 ⟨rfl, hb⟩
    have S25 := Lib.hid (S22.out.later hb)
    clear q23_0 q23_1 q23_2 q24_0 q24_1 q24_2
    clear hb S22
    have q26_0 : (w25).cell? ⟨w16.heap.size, 0, none⟩ = some (.int .i64 m16.r) := S25.out.c0 (v := ⟨w16.heap.size, m16, A16, cp16⟩) (List.mem_iff_getElem?.2 ⟨3, rfl⟩)
    have q26_1 : (w25).cell? ⟨w16.heap.size, 1, none⟩ = some (.int .i64 m16.c) := S25.out.c1 (v := ⟨w16.heap.size, m16, A16, cp16⟩) (List.mem_iff_getElem?.2 ⟨3, rfl⟩)
    have q26_2 : (w25).cell? ⟨w16.heap.size, 2, none⟩ = some (.slice A16 m16.l.length cp16) := S25.out.c2 (v := ⟨w16.heap.size, m16, A16, cp16⟩) (List.mem_iff_getElem?.2 ⟨3, rfl⟩)
    go_wp2_with fail
    have hh := rank_all (w2.heap.size + 1) w2.heap.size m16 A16 cp16 (w25) S25.out.inn.fld (S25.out.vars ⟨w16.heap.size, m16, A16, cp16⟩ (List.mem_iff_getElem?.2 ⟨3, rfl⟩)).mx
    refine hh.mono ?_; clear hh; rintro e w27 ⟨⟨n', rfl, hn⟩, hf, hr⟩
    have S27 := Lib.hid (S25.out.call hf hr)
    clear q26_0 q26_1 q26_2
    clear hf hr S25
    obtain rfl : n' = (rows.length : Int) := by
      obtain ⟨L', e, hk⟩ := hn.of HB.out
      rw [e, hk.unique (rk_of_inverse HY.out)]
    clear hn
    go_wp2_with fail
    refine (stands_any _).mono ?_; rintro e w28 ⟨rfl, hb⟩
    have hend := Lib.hid (S27.out.later hb).inn.below; clear hb
    go_wp2_with fail
    go_ret
    exact ⟨rfl, hend.out⟩
  · subst hx
    clear ho
    go_wp2_with fail
    refine (stands_any _).mono ?_; rintro e w29 ⟨rfl, hb⟩
    have hend := Lib.hid (S11.out.later hb).inn.below; clear hb
    go_wp2_with fail
    go_ret
    exact ⟨rfl, hend.out⟩
end Go.Proofs.Ytccnoflgbopjlaa

/-
  Contracts of package array's Row, PutRow and Crash (layer 10), over what is known of package drive ('DrvK'). Condition: the array is not nil; bounds; what is handed in lies outside the array's blocks. (Written by gen_dtf.py.)
-/
import Derived.Test.YtjjoeaneaibklaaDte
namespace Go.Proofs.Ytjjoeaneaibklaa
open Go.RowKit Go.Proofs
set_option linter.unusedVariables false

section
variable {Rep : World → (Nat → Prop) → Nat → Dv → Prop} {w w' : World} {S : Nat → Prop} {A c i : Nat} {AL : Option Addr} {ds : List Ds} {d : Ds} {xs : List Dv}
/-- What a call answers that makes rows: they lie in new memory. -/
def RetNs {α : Type} (enc : List α → List Value) (rs : List (List α)) (w : World) (e : Ending) (w' : World) : Prop := ∃ A' c', e = .returned (.slice A' rs.length c') ∧ Ns enc w' (fun b => w.heap.size ≤ b) A' rs.length c' rs ∧ Below w.heap.size w w'
theorem rowL_at {x : Dv} {t : Nat} {z : Int} (h : xs[t]? = some x) : (rowL xs z)[t]? = some (x.readL z) := by rw [rowL, List.getElem?_map, h]; rfl
theorem rowL_len {z : Int} : (rowL xs z).length = xs.length := List.length_map _
set_option maxRecDepth 100000
set_option maxHeartbeats 1600000
theorem arrow_any (DK : DrvK Rep) (h : AP Rep w S A xs) (at_ : Int) (h1 : -9223372036854775808 ≤ at_) (h2 : at_ < 9223372036854775808) (hw : Wl 100000 xs) (hx255 : xs.length ≤ 255) : Calls Try.prog 15 #[.pointer (some ⟨A, 0, none⟩), .int .i64 at_] w (RetNs cells (rowL xs at_) w) := by
  have hN := arN_any h
  have hmk := make10_eq (xs.length : Int) xs.length rfl (by omega)
  have HW := Lib.hid hw
  have H0 := Lib.hid h
  unfold RetNs
  rw [rowL_len]
  obtain ⟨n, hn⟩ : ∃ n, n = xs.length := ⟨_, rfl⟩
  rw [← hn] at hN hx255 hmk ⊢
  have HN := Lib.hid hn
  clear hw h hn
  go_enter Try.func15, Try.ntmps15
  go_wp2_with fail
  refine hN.mono ?_; clear hN; rintro e w1 ⟨rfl, hw1⟩
  obtain rfl : w = w1 := hw1.symm
  go_wp2_with fail
  have hb1 : Below w.heap.size w (w.alloc (.cells (madeCells #[.slice none 0 0] n) 40)) := (Below.refl _ _).alloc (Nat.le_refl _) _
  have hf1 : Nf cells (w.alloc (.cells (madeCells #[.slice none 0 0] n) 40)) w.heap.size w.heap.size n 0 [] := Nf.made w _ n (by unfold maxLen; omega)
  obtain ⟨w1, hw1⟩ : ∃ v, v = w.alloc (.cells (madeCells #[.slice none 0 0] n) 40) := ⟨_, rfl⟩
  rw [← hw1] at hb1 hf1 ⊢
  clear hw1 hmk
  have hN := arN_any (H0.out.later DK.lay hb1)
  rw [← HN.out] at hN
  refine hN.mono ?_; clear hN; rintro e w2 ⟨rfl, hw2⟩
  obtain rfl : w1 = w2 := hw2.symm
  go_wp2_with fail
  go_loopw [12] (fun i wr => ∃ t : Nat, t ≤ n ∧ i = .int .i64 (t : Int) ∧ Nf cells wr w.heap.size w.heap.size n t ((rowL xs at_).take t) ∧ Below w.heap.size w wr) (fun i _ => n - (intOf i).toNat)
  case atStart => exact ⟨0, by omega, rfl, hf1, hb1⟩
  case round =>
    obtain ⟨t, ht, rfl, hnf, hb⟩ := hrel
    by_cases hlt : t < n
    · have hti : (t : Int) < (n : Int) := by omega
      have hx : xs[t]? = some (xs[t]'(by have := HN.out; omega)) := List.getElem?_eq_getElem _
      obtain ⟨x, hxe⟩ : ∃ x, x = xs[t]'(by have := HN.out; omega) := ⟨_, rfl⟩
      rw [← hxe] at hx
      obtain ⟨AL, c, ds, ha, hxs⟩ := H0.out.later DK.lay hb
      obtain ⟨d, hd, hdx⟩ := xs_at hxs hx
      have c0 := ha.c0
      rw [xs_len hxs, ← HN.out] at c0
      obtain ⟨g, rfl, hg⟩ := ha.at_ (by have := get_lt hd; omega)
      have cg := hg t d hd
      unfold Ds.ptr at cg
      have hC := DK.read at_ h1 h2 (by rw [hdx]; exact HW.out t x hx) (ha.rep t d hd).1
      rw [hdx] at hC
      have HX := Lib.hid hx
      have HNF := Lib.hid hnf
      have HB := Lib.hid hb
      obtain ⟨l, hl⟩ : ∃ l, l = x.readL at_ := ⟨_, rfl⟩
      obtain ⟨ex, hex⟩ : ∃ ex, ex = x.readX at_ := ⟨_, rfl⟩
      rw [← hl, ← hex] at hC
      have HL := Lib.hid hl
      clear hl hex ha hxs hd hx hnf hb hg hxe hdx hf1 hb1
      go_wp2_with fail
      refine hC.mono ?_; clear hC; rintro e w3 ⟨A3, n3, c3, rfl, hs, hb3, hlo⟩
      obtain rfl : l.length = n3 := by have := hs.len; rw [cells_length] at this; omega
      obtain ⟨q1, u1⟩ := (HNF.out.later hb3).cell hlt
      have HST := Lib.hid ((HNF.out.later hb3).store hlt (r := l) hs (fun b o hn hA => by
        have := hlo b o hn hA
        have := HB.out.size
        obtain ⟨vs, g1, _⟩ := HNF.out.ex
        have := g1.lt
        exact ⟨by omega, by omega⟩))
      have HB3 := Lib.hid ((HB.out.trans (hb3.mono HB.out.size)).setCell (p := ⟨w.heap.size, t, none⟩) (Nat.le_refl _) (.slice A3 l.length c3))
      clear hs hb3 hlo c0 cg
      go_wp2_with fail
      clear q1 u1
      go_roundw
      case rel =>
        refine ⟨t + 1, by omega, by go_num, ?_, HB3.out⟩
        rw [take_next (rowL_at HX.out), ← HL.out]
        exact HST.out
      case measure => simp [intOf]; omega
    · obtain rfl : t = n := by omega
      have HNS := Lib.hid (show Ns cells wr (fun b => w.heap.size ≤ b) (some ⟨w.heap.size, 0, none⟩) t t (rowL xs at_) by
        rw [List.take_of_length_le (by rw [rowL_len]; have := HN.out; omega)] at hnf
        exact hnf.ns (Nat.le_refl _))
      have HB := Lib.hid hb
      clear hnf hb hf1 hb1
      go_wp2_with fail
      go_ret
      exact ⟨_, _, rfl, HNS.out, HB.out⟩
theorem arcrash_any (DK : DrvK Rep) (h : AP Rep w S A xs) (hw : Wl 100000 xs) (hx255 : xs.length ≤ 255) {A2 : Option Addr} {m c2 : Nat} {kss : List (List Bool)} {T : Nat → Prop} (hk : Ns bcells w T A2 m c2 kss) (hT : ∀ b, T b → ¬ S b) :
    Calls Try.prog 30 #[.pointer (some ⟨A, 0, none⟩), .slice A2 m c2] w fun e w' => e = .returned (.tuple #[]) ∧ MutA Rep S A (crashS xs kss xs.length) w w' := by
  have hN := arN_any h
  have hkl := hk.len
  have HK := Lib.hid hk
  have HT := Lib.hid hT
  have HW := Lib.hid hw
  have H0 := Lib.hid h
  obtain ⟨n, hn⟩ : ∃ n, n = xs.length := ⟨_, rfl⟩
  rw [← hn] at hN hx255 ⊢
  have HN := Lib.hid hn
  have hmx : m ≤ maxLen := Nat.le_trans hk.capLe.1 hk.capLe.2
  unfold maxLen at hmx
  clear hw h hn hk hT
  go_enter Try.func30, Try.ntmps30
  go_wp2_with fail
  refine hN.mono ?_; clear hN; rintro e w1 ⟨rfl, hw1⟩
  obtain rfl : w = w1 := hw1.symm
  go_wp2_with fail
  go_loopw [8] (fun i wr => ∃ (t : Nat) (S' : Nat → Prop), t ≤ n ∧ i = .int .i64 (t : Int) ∧ AP Rep wr S' A (crashS xs kss t) ∧ Nxt S S' w wr) (fun i _ => n - (intOf i).toNat)
  case atStart => exact ⟨0, S, by omega, rfl, by rw [crashS, upTo_zero]; exact H0.out, Nxt.refl _ _⟩
  case round =>
    obtain ⟨t, S', ht, rfl, ha, hnx⟩ := hrel
    by_cases hlt : t < n
    · have hti : (t : Int) < (n : Int) := by omega
      have hx : xs[t]? = some (xs[t]'(by have := HN.out; omega)) := List.getElem?_eq_getElem _
      obtain ⟨x, hxe⟩ : ∃ x, x = xs[t]'(by have := HN.out; omega) := ⟨_, rfl⟩
      rw [← hxe] at hx
      obtain ⟨AL, c, ds, ha, hxs⟩ := ha
      obtain ⟨d, hd, hdx⟩ := xs_at hxs (upTo_here hx)
      have c0 := ha.c0
      rw [xs_len hxs, crashS, upTo_len, ← HN.out] at c0
      obtain ⟨g, rfl, hg⟩ := ha.at_ (by have := get_lt hd; omega)
      have cg := hg t d hd
      unfold Ds.ptr at cg
      have hkr := HK.out.fr hnx.1 HT.out
      have hout : ∀ b, T b → b < w.heap.size → ¬ d.S b := fun b hb hb2 hq => (hnx.2 b ((ha.rep t d hd).2.2.2 b hq)).elim (HT.out b hb) (fun q => by omega)
      have hwt : d.x.wait.length ≤ 100000 := by rw [hdx]; exact HW.out t x hx
      have hrep := (ha.rep t d hd).1
      have HA := Lib.hid ha
      have HXS := Lib.hid hxs
      have HD := Lib.hid hd
      have HX := Lib.hid hx
      have HNX := Lib.hid hnx
      have key : ∀ (A3 : Option Addr) (n3 c3 : Nat) (ks : List Bool), ks = kss.getD t [] → Sl wr 1 A3 n3 c3 (bcells ks) → (∀ b o, 0 < n3 → A3 = some ⟨b, o, none⟩ → ¬ d.S b) → Calls Try.prog 63 #[.pointer (some ⟨d.D, 0, none⟩), .slice A3 n3 c3] wr fun e w2 => e = .returned (.tuple #[]) ∧ ∃ S3, AP Rep w2 S3 A (crashS xs kss (t + 1)) ∧ Nxt S S3 w w2 := by
        intro A3 n3 c3 ks hks hs ho
        refine (DK.crash A3 n3 c3 ks hwt hrep hs ho).mono ?_
        rintro e w2 ⟨rfl, S2, hr2, hf2, hs2⟩
        obtain ⟨S3, har, hn3⟩ := HA.out.turn DK.lay DK.lay (fun _ _ _ _ q => q) HXS.out HD.out hr2 hf2 hs2
        refine ⟨rfl, S3, ?_, HNX.out.trans hn3⟩
        rw [crashS, hks, hdx, upTo_set (F := fun i x => x.crash (kss.getD i [])) HX.out] at har
        exact har
      by_cases hm : t < m
      · have htm : (t : Int) < (m : Int) := by omega
        have hkt : kss[t]? = some (kss[t]'(by omega)) := List.getElem?_eq_getElem _
        obtain ⟨ks, hke⟩ : ∃ ks, ks = kss[t]'(by omega) := ⟨_, rfl⟩
        rw [← hke] at hkt
        obtain ⟨b, o, rfl, _, hc⟩ := hkr.at_ (by omega)
        obtain ⟨A3, c3, hcell, hs3, hb3⟩ := hc t ks hkt
        obtain ⟨b', o', hbo, _, hc0⟩ := HK.out.at_ (by omega)
        injection hbo with hbo
        injection hbo with hbb hoo
        subst hbb hoo
        obtain ⟨A4, c4, hcell0, hs0, hb0⟩ := hc0 t ks hkt
        have he := hnx.1.cell_some hcell0 (HT.out _ (by assumption))
        rw [hcell] at he
        injection he with he
        injection he with he1 _ he3
        subst he1 he3
        have hC := key A3 ks.length c3 ks (getD_at hkt).symm hs3 (fun b o hn hA => hout b (hb3 b o hn hA) (hs0.lt (by decide) hn hA))
        clear key hs3 hb3 hs0 hb0 hc hc0 hcell0 hkr hout hke hkt hwt hrep ha hxs hd hx hnx hg hxe hdx
        go_wp2_with fail
        refine hC.mono ?_; clear hC; rintro e w2 ⟨rfl, S3, har, hn3⟩
        have HAR := Lib.hid har
        have HN3 := Lib.hid hn3
        clear har hn3 hcell c0 cg
        go_wp2_with fail
        go_roundw
        case rel => exact ⟨t + 1, S3, by omega, by go_num, HAR.out, HN3.out⟩
        case measure => simp [intOf]; omega
      · have htm : ¬ (t : Int) < (m : Int) := by omega
        have hC := key none 0 0 [] (by rw [List.getD_eq_getElem?_getD, List.getElem?_eq_none (by omega)]; rfl) (Sl.nil _ 1 0 (by decide)) (fun b o hn => absurd hn (Nat.lt_irrefl _))
        clear key hkr hout hwt hrep ha hxs hd hx hnx hg hxe hdx
        go_wp2_with fail
        refine hC.mono ?_; clear hC; rintro e w2 ⟨rfl, S3, har, hn3⟩
        have HAR := Lib.hid har
        have HN3 := Lib.hid hn3
        clear har hn3 c0 cg
        go_wp2_with fail
        go_roundw
        case rel => exact ⟨t + 1, S3, by omega, by go_num, HAR.out, HN3.out⟩
        case measure => simp [intOf]; omega
    · obtain rfl : t = n := by omega
      have HM := Lib.hid (show MutA Rep S A (crashS xs kss t) w wr from ⟨S', ha, hnx⟩)
      clear ha hnx
      go_wp2_with fail
      go_end0
      exact ⟨rfl, HM.out⟩
theorem arputrow_any (DK : DrvK Rep) (h : AP Rep w S A xs) (hw : Wl 100000 xs) (hx255 : xs.length ≤ 255) (z : Int) (h1 : -9223372036854775808 ≤ z) (h2 : z < 9223372036854775808) {A2 : Option Addr} {m c2 : Nat} {rs : List (List UInt8)} {T : Nat → Prop} (hk : Ns cells w T A2 m c2 rs) (hT : ∀ b, T b → ¬ S b) :
    Calls Try.prog 19 #[.pointer (some ⟨A, 0, none⟩), .int .i64 z, .slice A2 m c2] w fun e w' => e = .returned (.int .i64 (putN xs rs z (min xs.length m) : Nat)) ∧ MutA Rep S A (putS xs rs z (min xs.length m)) w w' := by
  have hN := arN_any h
  have hkl := hk.len
  obtain ⟨i0, hi0, hz0, hz1, hz2⟩ := info_parts info_errno
  have Hi := Lib.hid hi0
  have Hz0 := Lib.hid hz0
  have Hz1 := Lib.hid hz1
  have Hz2 := Lib.hid hz2
  have HK := Lib.hid hk
  have HT := Lib.hid hT
  have HW := Lib.hid hw
  have H0 := Lib.hid h
  have hmx : m ≤ maxLen := Nat.le_trans hk.capLe.1 hk.capLe.2
  unfold maxLen at hmx
  obtain ⟨n, hn⟩ : ∃ n, n = xs.length := ⟨_, rfl⟩
  rw [← hn] at hN hx255 ⊢
  obtain ⟨q, hq⟩ : ∃ q, q = min n m := ⟨_, rfl⟩
  rw [← hq]
  have hqn : q ≤ n := by omega
  have hqm : q ≤ m := by omega
  have HMin := Lib.hid (show min (n : Int) (m : Int) = (q : Int) by omega)
  obtain ⟨r, hr⟩ : ∃ r, r = putN xs rs z q := ⟨_, rfl⟩
  rw [← hr]
  have HR := Lib.hid hr
  have HN := Lib.hid hn
  clear hw h hn hk hT hq hr hi0 hz0 hz1 hz2
  go_enter Try.func19, Try.ntmps19
  go_wp2_with fail
  refine hN.mono ?_; clear hN; rintro e w1 ⟨rfl, hw1⟩
  obtain rfl : w = w1 := hw1.symm
  go_wp2_with fail
  all_goals first
    | rw [show ((m : Nat) : Int) = ((q : Nat) : Int) from by have := HMin.out; omega]
    | rw [show ((n : Nat) : Int) = ((q : Nat) : Int) from by have := HMin.out; omega]
  · go_loopw [7, 14] (fun v i wr => ∃ (t k : Nat) (A' : Option Addr) (c' : Nat) (S' : Nat → Prop), t ≤ q ∧ i = .int .i64 (t : Int) ∧ v = .slice A' k c' ∧ k ≤ t ∧ k = (putA xs rs z t).length ∧ Rn wr A' 44 1 k c' (icells (putA xs rs z t)) ∧ (∀ b, Bk A' b → w.heap.size ≤ b ∧ ¬ S' b) ∧ AP Rep wr S' A (putS xs rs z t) ∧ Nxt S S' w wr) (fun _ i _ => q - (intOf i).toNat)
    case atStart => exact ⟨0, 0, none, 0, S, by omega, rfl, rfl, Nat.le_refl _, by simp [putA], .inl ⟨rfl, rfl, rfl, by simp [putA, icells]⟩, (fun b hb => by obtain ⟨o, hb⟩ := hb; cases hb), by rw [putS, upTo_zero]; exact H0.out, Nxt.refl _ _⟩
    case round =>
      obtain ⟨t, k, A', c', S', ht, rfl, rfl, hkt, hke, hrn, hA', ha, hnx⟩ := hrel
      by_cases hlt : t < q
      · have hti : (t : Int) < (q : Int) := by omega
        have htm : (t : Int) < (m : Int) := by omega
        have hx : xs[t]? = some (xs[t]'(by have := HN.out; omega)) := List.getElem?_eq_getElem _
        obtain ⟨x, hxe⟩ : ∃ x, x = xs[t]'(by have := HN.out; omega) := ⟨_, rfl⟩
        rw [← hxe] at hx
        have hrt : rs[t]? = some (rs[t]'(by omega)) := List.getElem?_eq_getElem _
        obtain ⟨ro, hroe⟩ : ∃ ro, ro = rs[t]'(by omega) := ⟨_, rfl⟩
        rw [← hroe] at hrt
        obtain ⟨AL, c, ds, ha, hxs⟩ := ha
        obtain ⟨d, hd, hdx⟩ := xs_at hxs (upTo_here hx)
        have c0 := ha.c0
        rw [xs_len hxs, putS, upTo_len, ← HN.out] at c0
        have htn : (t : Int) < (n : Int) := by omega
        obtain ⟨g, rfl, hg⟩ := ha.at_ (by have := get_lt hd; omega)
        have cg := hg t d hd
        unfold Ds.ptr at cg
        have hkr := HK.out.fr hnx.1 HT.out
        obtain ⟨b, o, rfl, hTb, hc⟩ := hkr.at_ (by omega)
        obtain ⟨A3, c3, hcell, hs3, hb3⟩ := hc t ro hrt
        have hbw : b < w.heap.size := by
          obtain ⟨b', o', hbo, _, hc0⟩ := HK.out.at_ (by omega)
          injection hbo with hbo
          injection hbo with hbb hoo
          subst hbb hoo
          obtain ⟨A4, c4, hcell0, _⟩ := hc0 t ro hrt
          exact World.block_lt_of_cell? w _ hcell0
        have hdS := (ha.rep t d hd).2.2.2
        have hwt : d.x.wait.length ≤ 100000 := by rw [hdx]; exact HW.out t x hx
        have hrep := (ha.rep t d hd).1
        have HA := Lib.hid ha
        have HXS := Lib.hid hxs
        have HD := Lib.hid hd
        have HX := Lib.hid hx
        have HRT := Lib.hid hrt
        have HRN := Lib.hid hrn
        have HKE := Lib.hid hke
        have HA' := Lib.hid hA'
        have HNX := Lib.hid hnx
        by_cases h0 : 0 < ro.length
        · have h0i : (0 : Int) < (ro.length : Int) := by omega
          have hC := DK.write z A3 ro.length c3 ro h1 h2 hwt (DK.fr hrep (Fr.drew (Fr.refl (fun _ => False) wr)) (fun _ _ q => q)) hs3.drew
          rw [hdx] at hC
          obtain ⟨v, hv⟩ : ∃ v, v = x.writeX z ro := ⟨_, rfl⟩
          rw [← hv] at hC
          have HV := Lib.hid hv
          have HC := Lib.hid hC
          have C0 := Lib.hid (show wr.drew.cell? ⟨A, 0, none⟩ = some (.slice (some ⟨g, 0, none⟩) n c) from c0)
          have CG := Lib.hid (show wr.drew.cell? ⟨g, t, none⟩ = some (.pointer (some ⟨d.D, 0, none⟩)) from cg)
          have CR := Lib.hid (show wr.drew.cell? ⟨b, o + t, none⟩ = some (.slice A3 ro.length c3) from hcell)
          have N0 := Lib.hid (show ¬ (d.S A ∨ Bk A' A ∨ wr.heap.size ≤ A) from by
            rintro (q | q | q)
            · exact (ha.rep t d hd).2.1 q
            · exact (hA' A q).2 ha.own.1
            · have := ha.old A ha.own.1; omega)
          have NG := Lib.hid (show ¬ (d.S g ∨ Bk A' g ∨ wr.heap.size ≤ g) from by
            rintro (q | q | q)
            · exact (ha.rep t d hd).2.2.1 g ⟨0, rfl⟩ q
            · exact (hA' g q).2 (ha.own.2 g ⟨0, rfl⟩)
            · have := ha.old g (ha.own.2 g ⟨0, rfl⟩); omega)
          have NR := Lib.hid (show ¬ (d.S b ∨ Bk A' b ∨ wr.heap.size ≤ b) from by
            rintro (q | q | q)
            · exact (hnx.2 b (hdS b q)).elim (HT.out b hTb) (fun q => by omega)
            · have := (hA' b q).1; omega
            · have := hnx.1.size; omega)
          clear hC hv hs3 hb3 hc hkr hdS hwt hrep ha hxs hd hx hnx hg hxe hdx hrt hroe hrn hA' hke hTb
          go_wp2_with fail
          clear c0 cg hcell
          refine wp_region_held_drew (S := fun w' => Fr (fun k => d.S k ∨ Bk A' k ∨ wr.heap.size ≤ k) wr.drew w') (by kernel_rfl) (Fr.refl _ _) (fun hHeld => ?_)
          clear hHeld
          refine wpAnyH_take (i := 0) (oi := ⟨some 23, _, _, _, _, _⟩) (v := ?vp0) rfl (by kernel_rfl) (by kernel_rfl) (by kernel_rfl) (fun _ _ _ h => h) (Or.inl ⟨by rfl, ?yp0⟩) (Fr.refl _ _) ?rp0
          case yp0 =>
            intro wq hSw
            (try dsimp only at hSw)
            first | (go_simp; done) | (go_simp; with_reducible rfl)
          try simp only [Act.put, List.setIfInBounds_toArray, List.set_cons_zero, List.set_cons_succ]
          refine wpAnyH_take (i := 1) (oi := ⟨some 24, _, _, _, _, _⟩) (v := ?vp1) rfl (by kernel_rfl) (by kernel_rfl) (by kernel_rfl) (fun _ _ _ h => h) (Or.inl ⟨by rfl, ?yp1⟩) (Fr.refl _ _) ?rp1
          case yp1 =>
            intro wq hSw
            (try dsimp only at hSw)
            first | (go_simp; done) | (go_simp; with_reducible rfl)
          try simp only [Act.put, List.setIfInBounds_toArray, List.set_cons_zero, List.set_cons_succ]
          refine wpAnyH_take (i := 2) (oi := ⟨some 25, _, _, _, _, _⟩) (v := ?vp2) rfl (by kernel_rfl) (by kernel_rfl) (by kernel_rfl) (fun _ _ _ h => h) (Or.inl ⟨by rfl, ?yp2⟩) (Fr.refl _ _) ?rp2
          case yp2 =>
            intro wq hSw
            (try dsimp only at hSw)
            first | (go_simp; done) | (go_simp; with_reducible rfl)
          try simp only [Act.put, List.setIfInBounds_toArray, List.set_cons_zero, List.set_cons_succ]
          refine wpAnyH_take (i := 3) (oi := ⟨some 26, _, _, _, _, _⟩) (v := ?vp3) rfl (by kernel_rfl) (by kernel_rfl) (by kernel_rfl) (fun _ _ _ h => h) (Or.inl ⟨by rfl, ?yp3⟩) (Fr.refl _ _) ?rp3
          case yp3 =>
            intro wq hSw
            (try dsimp only at hSw)
            first | (go_simp; done) | (go_simp; with_reducible rfl)
          try simp only [Act.put, List.setIfInBounds_toArray, List.set_cons_zero, List.set_cons_succ]
          refine wpAnyH_take (i := 4) (oi := ⟨some 27, _, _, _, _, _⟩) (v := ?vp4) rfl (by kernel_rfl) (by kernel_rfl) (by kernel_rfl) (fun _ _ _ h => h) (Or.inl ⟨by rfl, ?yp4⟩) (Fr.refl _ _) ?rp4
          case yp4 =>
            intro wq hSw
            (try dsimp only at hSw)
            have hq := hSw.cell_some C0.out N0.out
            first | (go_simp; done) | (go_simp; with_reducible rfl)
          try simp only [Act.put, List.setIfInBounds_toArray, List.set_cons_zero, List.set_cons_succ]
          refine wpAnyH_take (i := 5) (oi := ⟨some 28, _, _, _, _, _⟩) (v := ?vp5) rfl (by kernel_rfl) (by kernel_rfl) (by kernel_rfl) (fun _ _ _ h => h) (Or.inl ⟨by rfl, ?yp5⟩) (Fr.refl _ _) ?rp5
          case yp5 =>
            intro wq hSw
            (try dsimp only at hSw)
            first | (go_simp; done) | (go_simp; with_reducible rfl)
          try simp only [Act.put, List.setIfInBounds_toArray, List.set_cons_zero, List.set_cons_succ]
          refine wpAnyH_take (i := 6) (oi := ⟨some 29, _, _, _, _, _⟩) (v := ?vp6) rfl (by kernel_rfl) (by kernel_rfl) (by kernel_rfl) (fun _ _ _ h => h) (Or.inl ⟨by rfl, ?yp6⟩) (Fr.refl _ _) ?rp6
          case yp6 =>
            intro wq hSw
            (try dsimp only at hSw)
            first | (go_simp; done) | (go_simp; with_reducible rfl)
          try simp only [Act.put, List.setIfInBounds_toArray, List.set_cons_zero, List.set_cons_succ]
          refine wpAnyH_take (i := 7) (oi := ⟨some 30, _, _, _, _, _⟩) (v := ?vp7) rfl (by kernel_rfl) (by kernel_rfl) (by kernel_rfl) (fun _ _ _ h => h) (Or.inl ⟨by rfl, ?yp7⟩) (Fr.refl _ _) ?rp7
          case yp7 =>
            intro wq hSw
            (try dsimp only at hSw)
            have hq := hSw.cell_some CG.out NG.out
            first | (go_simp; done) | (go_simp; with_reducible rfl)
          try simp only [Act.put, List.setIfInBounds_toArray, List.set_cons_zero, List.set_cons_succ]
          refine wpAnyH_take (i := 8) (oi := ⟨some 31, _, _, _, _, _⟩) (v := ?vp8) rfl (by kernel_rfl) (by kernel_rfl) (by kernel_rfl) (fun _ _ _ h => h) (Or.inl ⟨by rfl, ?yp8⟩) (Fr.refl _ _) ?rp8
          case yp8 =>
            intro wq hSw
            (try dsimp only at hSw)
            first | (go_simp; done) | (go_simp; with_reducible rfl)
          try simp only [Act.put, List.setIfInBounds_toArray, List.set_cons_zero, List.set_cons_succ]
          refine wpAnyH_take (i := 9) (oi := ⟨some 32, _, _, _, _, _⟩) (v := ?vp9) rfl (by kernel_rfl) (by kernel_rfl) (by kernel_rfl) (fun _ _ _ h => h) (Or.inl ⟨by rfl, ?yp9⟩) (Fr.refl _ _) ?rp9
          case yp9 =>
            intro wq hSw
            (try dsimp only at hSw)
            first | (go_simp; done) | (go_simp; with_reducible rfl)
          try simp only [Act.put, List.setIfInBounds_toArray, List.set_cons_zero, List.set_cons_succ]
          refine wpAnyH_take (i := 10) (oi := ⟨some 33, _, _, _, _, _⟩) (v := ?vp10) rfl (by kernel_rfl) (by kernel_rfl) (by kernel_rfl) (fun _ _ _ h => h) (Or.inl ⟨by rfl, ?yp10⟩) (Fr.refl _ _) ?rp10
          case yp10 =>
            intro wq hSw
            (try dsimp only at hSw)
            first | (go_simp; done) | (go_simp; with_reducible rfl)
          try simp only [Act.put, List.setIfInBounds_toArray, List.set_cons_zero, List.set_cons_succ]
          refine wpAnyH_take (i := 11) (oi := ⟨some 34, _, _, _, _, _⟩) (v := ?vp11) rfl (by kernel_rfl) (by kernel_rfl) (by kernel_rfl) (fun _ _ _ h => h) (Or.inl ⟨by rfl, ?yp11⟩) (Fr.refl _ _) ?rp11
          case yp11 =>
            intro wq hSw
            (try dsimp only at hSw)
            first | (go_simp; done) | (go_simp; with_reducible rfl)
          try simp only [Act.put, List.setIfInBounds_toArray, List.set_cons_zero, List.set_cons_succ]
          refine wpAnyH_take (i := 12) (oi := ⟨some 35, _, _, _, _, _⟩) (v := ?vp12) rfl (by kernel_rfl) (by kernel_rfl) (by kernel_rfl) (fun _ _ _ h => h) (Or.inl ⟨by rfl, ?yp12⟩) (Fr.refl _ _) ?rp12
          case yp12 =>
            intro wq hSw
            (try dsimp only at hSw)
            have hq := hSw.cell_some CR.out NR.out
            first | (go_simp; done) | (go_simp; with_reducible rfl)
          try simp only [Act.put, List.setIfInBounds_toArray, List.set_cons_zero, List.set_cons_succ]
          refine wpAnyH_ready (rs := [13]) (by kernel_rfl) (by simp) ?_
          refine AllReadyH.cons (o := ⟨some 36, _, _, _, _, _⟩) rfl (fun K hK => ?_) AllReadyH.nil
          go_simp
          refine HC.out.mono ?_; rintro e w2 ⟨rfl, S2, hr2, hf2, hs2⟩
          have hbd : Below wr.heap.size wr wr.drew := Below.drew (Below.refl _ _)
          obtain ⟨S3, har, hn3⟩ := (HA.out.later DK.lay hbd).turn DK.lay DK.lay (fun _ _ _ _ q => q) HXS.out HD.out hr2 hf2 hs2
          have HN3 := Lib.hid (show Nxt S' S3 wr w2 from hn3.below hbd)
          have HAR := Lib.hid har
          have HRN2 := Lib.hid (HRN.out.fr HN3.out.1 (fun b hb => (HA'.out b hb).2))
          have HZ2 := Lib.hid HN3.out.1.size
          have hfr : Fr (fun k => d.S k ∨ Bk A' k ∨ wr.heap.size ≤ k) wr.drew w2 := hf2.mono (fun b hb => .inl hb)
          clear hr2 hf2 hs2 har hn3 hbd
          go_wp2_with fail
          refine hK.out _ _ hfr (fun hHeld => ?_)
          clear hK K hHeld
          try simp only [Act.put, List.setIfInBounds_toArray, List.set_cons_zero, List.set_cons_succ]
          refine wpAnyH_re (S' := fun w' => Fr (fun k => d.S k ∨ Bk A' k ∨ wr.heap.size ≤ k) w2 w') (fun w' h => hfr.trans h) ?_
          clear hfr
          refine wpAnyH_ready (rs := [14]) (by kernel_rfl) (by simp) ?_
          refine AllReadyH.cons (o := ⟨some 37, _, _, _, _, _⟩) rfl (fun K hK => ?_) AllReadyH.nil
          go_simp
          have hb : Below w2.heap.size w2 (w2.alloc (.cells #[.int .i64 v] 44)) := (Below.refl _ _).alloc (Nat.le_refl _) _
          have hsl := Sl.made w2 #[.int .i64 v] 44 1 1 rfl (by decide)
          obtain ⟨w4, hw⟩ : ∃ u0, u0 = w2.alloc (.cells #[.int .i64 v] 44) := ⟨_, rfl⟩
          rw [← hw] at hb hsl ⊢
          clear hw
          have HSL := Lib.hid hsl
          have HB4 := Lib.hid hb
          have HRN4 := Lib.hid (HRN2.out.later hb)
          have hfr : Fr (fun k => d.S k ∨ Bk A' k ∨ wr.heap.size ≤ k) w2 w4 := Fr.of_below hb
          clear hb hsl
          refine hK.out _ _ hfr (fun hHeld => ?_)
          clear hK K hHeld
          try simp only [Act.put, List.setIfInBounds_toArray, List.set_cons_zero, List.set_cons_succ]
          refine wpAnyH_re (S' := fun w' => Fr (fun k => d.S k ∨ Bk A' k ∨ wr.heap.size ≤ k) w4 w') (fun w' h => hfr.trans h) ?_
          clear hfr
          refine wpAnyH_ready (rs := [15]) (by kernel_rfl) (by simp) ?_
          refine AllReadyH.cons (o := ⟨some 38, _, _, _, _, _⟩) rfl (fun K hK => ?_) AllReadyH.nil
          refine wp_append_rn (o := ⟨some 38, _, _, _, _, _⟩) (.tmp 23) (.tmp 37) 88 88 rfl i0 (.int .i64 0) 8 Try.underlying88 Hi.out Hz0.out Hz1.out Hz2.out rfl (by decide) rfl HRN4.out (.slice (some ⟨w2.heap.size, 0, none⟩) 1 1) 1 [.int .i64 v] rfl (HSL.out.src Try.underlying88 (by decide) (fun u hu => by simp at hu; rw [hu]; rfl)) (by unfold maxLen; omega) (by omega) ?_
          intro A5 c5 w5 hrn5 hf5 ho5
          have hfr : Fr (fun k => d.S k ∨ Bk A' k ∨ wr.heap.size ≤ k) w4 w5 := hf5.mono (fun b hb => .inr (.inl hb))
          have HRN5 := Lib.hid hrn5
          have HST := Lib.hid (ans_step DK.lay HRN.out HA'.out HNX.out HAR.out HN3.out ((Fr.of_below HB4.out).trans hf5) (ho5.imp id (fun e => ⟨_, e, HB4.out.size⟩)))
          clear hrn5 hf5 ho5
          refine hK.out _ _ hfr (fun hHeld => ?_)
          clear hK K hHeld
          try simp only [Act.put, List.setIfInBounds_toArray, List.set_cons_zero, List.set_cons_succ]
          refine wpAnyH_re (S' := fun w' => Fr (fun k => d.S k ∨ Bk A' k ∨ wr.heap.size ≤ k) w5 w') (fun w' h => hfr.trans h) ?_
          clear hfr
          refine wpAnyH_take (i := 16) (oi := ⟨some 7, _, _, _, _, _⟩) (v := ?vp16) rfl (by kernel_rfl) (by kernel_rfl) (by kernel_rfl) (fun _ _ _ h => h) (Or.inl ⟨by rfl, ?yp16⟩) (Fr.refl _ _) ?rp16
          case yp16 =>
            intro wq hSw
            (try dsimp only at hSw)
            first | (go_simp; done) | (go_simp; with_reducible rfl)
          try simp only [Act.put, List.setIfInBounds_toArray, List.set_cons_zero, List.set_cons_succ]
          refine wpAnyH_done (by kernel_rfl) ?_ _
          go_wp2_with fail
          go_roundw
          case rel =>
            refine ⟨t + 1, k + 1, A5, c5, S3, by omega, by go_num, rfl, by omega, ?_, ?_, HST.out.2.2, ?_, HST.out.2.1⟩
            · rw [putA_yes HX.out HRT.out h0, List.length_append, ← HKE.out]; rfl
            · rw [putA_yes HX.out HRT.out h0, icells_append, ← HV.out]; exact HRN5.out
            · have := HST.out.1
              rw [putS, ← putF_yes (x := x) HRT.out h0, upTo_set (F := putF rs z) HX.out] at this
              exact this
          case measure => simp [intOf]; omega
        · have h0i : ¬ (0 : Int) < (ro.length : Int) := by omega
          have HM := Lib.hid (show AP Rep wr S' A (putS xs rs z (t + 1)) by
            rw [putS, upTo_same HX.out (putF_no HRT.out h0)]
            exact ⟨_, c, ds, HA.out, HXS.out⟩)
          clear hs3 hb3 hc hkr hdS hwt hrep ha hxs hd hx hnx hg hxe hdx hrt hroe hrn hA' hke hTb
          go_wp2_with fail
          clear c0 cg hcell
          go_roundw
          case rel =>
            refine ⟨t + 1, k, A', c', S', by omega, by go_num, rfl, by omega, ?_, ?_, HA'.out, HM.out, HNX.out⟩
            · rw [putA_no HX.out HRT.out h0]; exact HKE.out
            · rw [putA_no HX.out HRT.out h0]; exact HRN.out
          case measure => simp [intOf]; omega
      · obtain rfl : t = q := by omega
        have HM := Lib.hid (show MutA Rep S A (putS xs rs z t) w wr from ⟨S', ha, hnx⟩)
        have hC := arcount_e hrn.sl (by omega)
        rw [show (putA xs rs z t).count 0 = r from HR.out.symm] at hC
        clear hrn hA' ha hnx hke
        go_wp2_with fail
        refine hC.mono ?_; clear hC; rintro e w3 ⟨rfl, hw3⟩
        obtain rfl : wr = w3 := hw3.symm
        go_wp2_with fail
        go_ret
        exact ⟨rfl, HM.out⟩
  · go_loopw [7, 14] (fun v i wr => ∃ (t k : Nat) (A' : Option Addr) (c' : Nat) (S' : Nat → Prop), t ≤ q ∧ i = .int .i64 (t : Int) ∧ v = .slice A' k c' ∧ k ≤ t ∧ k = (putA xs rs z t).length ∧ Rn wr A' 44 1 k c' (icells (putA xs rs z t)) ∧ (∀ b, Bk A' b → w.heap.size ≤ b ∧ ¬ S' b) ∧ AP Rep wr S' A (putS xs rs z t) ∧ Nxt S S' w wr) (fun _ i _ => q - (intOf i).toNat)
    case atStart => exact ⟨0, 0, none, 0, S, by omega, rfl, rfl, Nat.le_refl _, by simp [putA], .inl ⟨rfl, rfl, rfl, by simp [putA, icells]⟩, (fun b hb => by obtain ⟨o, hb⟩ := hb; cases hb), by rw [putS, upTo_zero]; exact H0.out, Nxt.refl _ _⟩
    case round =>
      obtain ⟨t, k, A', c', S', ht, rfl, rfl, hkt, hke, hrn, hA', ha, hnx⟩ := hrel
      by_cases hlt : t < q
      · have hti : (t : Int) < (q : Int) := by omega
        have htm : (t : Int) < (m : Int) := by omega
        have hx : xs[t]? = some (xs[t]'(by have := HN.out; omega)) := List.getElem?_eq_getElem _
        obtain ⟨x, hxe⟩ : ∃ x, x = xs[t]'(by have := HN.out; omega) := ⟨_, rfl⟩
        rw [← hxe] at hx
        have hrt : rs[t]? = some (rs[t]'(by omega)) := List.getElem?_eq_getElem _
        obtain ⟨ro, hroe⟩ : ∃ ro, ro = rs[t]'(by omega) := ⟨_, rfl⟩
        rw [← hroe] at hrt
        obtain ⟨AL, c, ds, ha, hxs⟩ := ha
        obtain ⟨d, hd, hdx⟩ := xs_at hxs (upTo_here hx)
        have c0 := ha.c0
        rw [xs_len hxs, putS, upTo_len, ← HN.out] at c0
        have htn : (t : Int) < (n : Int) := by omega
        obtain ⟨g, rfl, hg⟩ := ha.at_ (by have := get_lt hd; omega)
        have cg := hg t d hd
        unfold Ds.ptr at cg
        have hkr := HK.out.fr hnx.1 HT.out
        obtain ⟨b, o, rfl, hTb, hc⟩ := hkr.at_ (by omega)
        obtain ⟨A3, c3, hcell, hs3, hb3⟩ := hc t ro hrt
        have hbw : b < w.heap.size := by
          obtain ⟨b', o', hbo, _, hc0⟩ := HK.out.at_ (by omega)
          injection hbo with hbo
          injection hbo with hbb hoo
          subst hbb hoo
          obtain ⟨A4, c4, hcell0, _⟩ := hc0 t ro hrt
          exact World.block_lt_of_cell? w _ hcell0
        have hdS := (ha.rep t d hd).2.2.2
        have hwt : d.x.wait.length ≤ 100000 := by rw [hdx]; exact HW.out t x hx
        have hrep := (ha.rep t d hd).1
        have HA := Lib.hid ha
        have HXS := Lib.hid hxs
        have HD := Lib.hid hd
        have HX := Lib.hid hx
        have HRT := Lib.hid hrt
        have HRN := Lib.hid hrn
        have HKE := Lib.hid hke
        have HA' := Lib.hid hA'
        have HNX := Lib.hid hnx
        by_cases h0 : 0 < ro.length
        · have h0i : (0 : Int) < (ro.length : Int) := by omega
          have hC := DK.write z A3 ro.length c3 ro h1 h2 hwt (DK.fr hrep (Fr.drew (Fr.refl (fun _ => False) wr)) (fun _ _ q => q)) hs3.drew
          rw [hdx] at hC
          obtain ⟨v, hv⟩ : ∃ v, v = x.writeX z ro := ⟨_, rfl⟩
          rw [← hv] at hC
          have HV := Lib.hid hv
          have HC := Lib.hid hC
          have C0 := Lib.hid (show wr.drew.cell? ⟨A, 0, none⟩ = some (.slice (some ⟨g, 0, none⟩) n c) from c0)
          have CG := Lib.hid (show wr.drew.cell? ⟨g, t, none⟩ = some (.pointer (some ⟨d.D, 0, none⟩)) from cg)
          have CR := Lib.hid (show wr.drew.cell? ⟨b, o + t, none⟩ = some (.slice A3 ro.length c3) from hcell)
          have N0 := Lib.hid (show ¬ (d.S A ∨ Bk A' A ∨ wr.heap.size ≤ A) from by
            rintro (q | q | q)
            · exact (ha.rep t d hd).2.1 q
            · exact (hA' A q).2 ha.own.1
            · have := ha.old A ha.own.1; omega)
          have NG := Lib.hid (show ¬ (d.S g ∨ Bk A' g ∨ wr.heap.size ≤ g) from by
            rintro (q | q | q)
            · exact (ha.rep t d hd).2.2.1 g ⟨0, rfl⟩ q
            · exact (hA' g q).2 (ha.own.2 g ⟨0, rfl⟩)
            · have := ha.old g (ha.own.2 g ⟨0, rfl⟩); omega)
          have NR := Lib.hid (show ¬ (d.S b ∨ Bk A' b ∨ wr.heap.size ≤ b) from by
            rintro (q | q | q)
            · exact (hnx.2 b (hdS b q)).elim (HT.out b hTb) (fun q => by omega)
            · have := (hA' b q).1; omega
            · have := hnx.1.size; omega)
          clear hC hv hs3 hb3 hc hkr hdS hwt hrep ha hxs hd hx hnx hg hxe hdx hrt hroe hrn hA' hke hTb
          go_wp2_with fail
          clear c0 cg hcell
          refine wp_region_held_drew (S := fun w' => Fr (fun k => d.S k ∨ Bk A' k ∨ wr.heap.size ≤ k) wr.drew w') (by kernel_rfl) (Fr.refl _ _) (fun hHeld => ?_)
          clear hHeld
          refine wpAnyH_take (i := 0) (oi := ⟨some 23, _, _, _, _, _⟩) (v := ?vr0) rfl (by kernel_rfl) (by kernel_rfl) (by kernel_rfl) (fun _ _ _ h => h) (Or.inl ⟨by rfl, ?yr0⟩) (Fr.refl _ _) ?rr0
          case yr0 =>
            intro wq hSw
            (try dsimp only at hSw)
            first | (go_simp; done) | (go_simp; with_reducible rfl)
          try simp only [Act.put, List.setIfInBounds_toArray, List.set_cons_zero, List.set_cons_succ]
          refine wpAnyH_take (i := 1) (oi := ⟨some 24, _, _, _, _, _⟩) (v := ?vr1) rfl (by kernel_rfl) (by kernel_rfl) (by kernel_rfl) (fun _ _ _ h => h) (Or.inl ⟨by rfl, ?yr1⟩) (Fr.refl _ _) ?rr1
          case yr1 =>
            intro wq hSw
            (try dsimp only at hSw)
            first | (go_simp; done) | (go_simp; with_reducible rfl)
          try simp only [Act.put, List.setIfInBounds_toArray, List.set_cons_zero, List.set_cons_succ]
          refine wpAnyH_take (i := 2) (oi := ⟨some 25, _, _, _, _, _⟩) (v := ?vr2) rfl (by kernel_rfl) (by kernel_rfl) (by kernel_rfl) (fun _ _ _ h => h) (Or.inl ⟨by rfl, ?yr2⟩) (Fr.refl _ _) ?rr2
          case yr2 =>
            intro wq hSw
            (try dsimp only at hSw)
            first | (go_simp; done) | (go_simp; with_reducible rfl)
          try simp only [Act.put, List.setIfInBounds_toArray, List.set_cons_zero, List.set_cons_succ]
          refine wpAnyH_take (i := 3) (oi := ⟨some 26, _, _, _, _, _⟩) (v := ?vr3) rfl (by kernel_rfl) (by kernel_rfl) (by kernel_rfl) (fun _ _ _ h => h) (Or.inl ⟨by rfl, ?yr3⟩) (Fr.refl _ _) ?rr3
          case yr3 =>
            intro wq hSw
            (try dsimp only at hSw)
            first | (go_simp; done) | (go_simp; with_reducible rfl)
          try simp only [Act.put, List.setIfInBounds_toArray, List.set_cons_zero, List.set_cons_succ]
          refine wpAnyH_take (i := 4) (oi := ⟨some 27, _, _, _, _, _⟩) (v := ?vr4) rfl (by kernel_rfl) (by kernel_rfl) (by kernel_rfl) (fun _ _ _ h => h) (Or.inl ⟨by rfl, ?yr4⟩) (Fr.refl _ _) ?rr4
          case yr4 =>
            intro wq hSw
            (try dsimp only at hSw)
            have hq := hSw.cell_some C0.out N0.out
            first | (go_simp; done) | (go_simp; with_reducible rfl)
          try simp only [Act.put, List.setIfInBounds_toArray, List.set_cons_zero, List.set_cons_succ]
          refine wpAnyH_take (i := 5) (oi := ⟨some 28, _, _, _, _, _⟩) (v := ?vr5) rfl (by kernel_rfl) (by kernel_rfl) (by kernel_rfl) (fun _ _ _ h => h) (Or.inl ⟨by rfl, ?yr5⟩) (Fr.refl _ _) ?rr5
          case yr5 =>
            intro wq hSw
            (try dsimp only at hSw)
            first | (go_simp; done) | (go_simp; with_reducible rfl)
          try simp only [Act.put, List.setIfInBounds_toArray, List.set_cons_zero, List.set_cons_succ]
          refine wpAnyH_take (i := 6) (oi := ⟨some 29, _, _, _, _, _⟩) (v := ?vr6) rfl (by kernel_rfl) (by kernel_rfl) (by kernel_rfl) (fun _ _ _ h => h) (Or.inl ⟨by rfl, ?yr6⟩) (Fr.refl _ _) ?rr6
          case yr6 =>
            intro wq hSw
            (try dsimp only at hSw)
            first | (go_simp; done) | (go_simp; with_reducible rfl)
          try simp only [Act.put, List.setIfInBounds_toArray, List.set_cons_zero, List.set_cons_succ]
          refine wpAnyH_take (i := 7) (oi := ⟨some 30, _, _, _, _, _⟩) (v := ?vr7) rfl (by kernel_rfl) (by kernel_rfl) (by kernel_rfl) (fun _ _ _ h => h) (Or.inl ⟨by rfl, ?yr7⟩) (Fr.refl _ _) ?rr7
          case yr7 =>
            intro wq hSw
            (try dsimp only at hSw)
            have hq := hSw.cell_some CG.out NG.out
            first | (go_simp; done) | (go_simp; with_reducible rfl)
          try simp only [Act.put, List.setIfInBounds_toArray, List.set_cons_zero, List.set_cons_succ]
          refine wpAnyH_take (i := 8) (oi := ⟨some 31, _, _, _, _, _⟩) (v := ?vr8) rfl (by kernel_rfl) (by kernel_rfl) (by kernel_rfl) (fun _ _ _ h => h) (Or.inl ⟨by rfl, ?yr8⟩) (Fr.refl _ _) ?rr8
          case yr8 =>
            intro wq hSw
            (try dsimp only at hSw)
            first | (go_simp; done) | (go_simp; with_reducible rfl)
          try simp only [Act.put, List.setIfInBounds_toArray, List.set_cons_zero, List.set_cons_succ]
          refine wpAnyH_take (i := 9) (oi := ⟨some 32, _, _, _, _, _⟩) (v := ?vr9) rfl (by kernel_rfl) (by kernel_rfl) (by kernel_rfl) (fun _ _ _ h => h) (Or.inl ⟨by rfl, ?yr9⟩) (Fr.refl _ _) ?rr9
          case yr9 =>
            intro wq hSw
            (try dsimp only at hSw)
            first | (go_simp; done) | (go_simp; with_reducible rfl)
          try simp only [Act.put, List.setIfInBounds_toArray, List.set_cons_zero, List.set_cons_succ]
          refine wpAnyH_take (i := 10) (oi := ⟨some 33, _, _, _, _, _⟩) (v := ?vr10) rfl (by kernel_rfl) (by kernel_rfl) (by kernel_rfl) (fun _ _ _ h => h) (Or.inl ⟨by rfl, ?yr10⟩) (Fr.refl _ _) ?rr10
          case yr10 =>
            intro wq hSw
            (try dsimp only at hSw)
            first | (go_simp; done) | (go_simp; with_reducible rfl)
          try simp only [Act.put, List.setIfInBounds_toArray, List.set_cons_zero, List.set_cons_succ]
          refine wpAnyH_take (i := 11) (oi := ⟨some 34, _, _, _, _, _⟩) (v := ?vr11) rfl (by kernel_rfl) (by kernel_rfl) (by kernel_rfl) (fun _ _ _ h => h) (Or.inl ⟨by rfl, ?yr11⟩) (Fr.refl _ _) ?rr11
          case yr11 =>
            intro wq hSw
            (try dsimp only at hSw)
            first | (go_simp; done) | (go_simp; with_reducible rfl)
          try simp only [Act.put, List.setIfInBounds_toArray, List.set_cons_zero, List.set_cons_succ]
          refine wpAnyH_take (i := 12) (oi := ⟨some 35, _, _, _, _, _⟩) (v := ?vr12) rfl (by kernel_rfl) (by kernel_rfl) (by kernel_rfl) (fun _ _ _ h => h) (Or.inl ⟨by rfl, ?yr12⟩) (Fr.refl _ _) ?rr12
          case yr12 =>
            intro wq hSw
            (try dsimp only at hSw)
            have hq := hSw.cell_some CR.out NR.out
            first | (go_simp; done) | (go_simp; with_reducible rfl)
          try simp only [Act.put, List.setIfInBounds_toArray, List.set_cons_zero, List.set_cons_succ]
          refine wpAnyH_ready (rs := [13]) (by kernel_rfl) (by simp) ?_
          refine AllReadyH.cons (o := ⟨some 36, _, _, _, _, _⟩) rfl (fun K hK => ?_) AllReadyH.nil
          go_simp
          refine HC.out.mono ?_; rintro e w2 ⟨rfl, S2, hr2, hf2, hs2⟩
          have hbd : Below wr.heap.size wr wr.drew := Below.drew (Below.refl _ _)
          obtain ⟨S3, har, hn3⟩ := (HA.out.later DK.lay hbd).turn DK.lay DK.lay (fun _ _ _ _ q => q) HXS.out HD.out hr2 hf2 hs2
          have HN3 := Lib.hid (show Nxt S' S3 wr w2 from hn3.below hbd)
          have HAR := Lib.hid har
          have HRN2 := Lib.hid (HRN.out.fr HN3.out.1 (fun b hb => (HA'.out b hb).2))
          have HZ2 := Lib.hid HN3.out.1.size
          have hfr : Fr (fun k => d.S k ∨ Bk A' k ∨ wr.heap.size ≤ k) wr.drew w2 := hf2.mono (fun b hb => .inl hb)
          clear hr2 hf2 hs2 har hn3 hbd
          go_wp2_with fail
          refine hK.out _ _ hfr (fun hHeld => ?_)
          clear hK K hHeld
          try simp only [Act.put, List.setIfInBounds_toArray, List.set_cons_zero, List.set_cons_succ]
          refine wpAnyH_re (S' := fun w' => Fr (fun k => d.S k ∨ Bk A' k ∨ wr.heap.size ≤ k) w2 w') (fun w' h => hfr.trans h) ?_
          clear hfr
          refine wpAnyH_ready (rs := [14]) (by kernel_rfl) (by simp) ?_
          refine AllReadyH.cons (o := ⟨some 37, _, _, _, _, _⟩) rfl (fun K hK => ?_) AllReadyH.nil
          go_simp
          have hb : Below w2.heap.size w2 (w2.alloc (.cells #[.int .i64 v] 44)) := (Below.refl _ _).alloc (Nat.le_refl _) _
          have hsl := Sl.made w2 #[.int .i64 v] 44 1 1 rfl (by decide)
          obtain ⟨w4, hw⟩ : ∃ u0, u0 = w2.alloc (.cells #[.int .i64 v] 44) := ⟨_, rfl⟩
          rw [← hw] at hb hsl ⊢
          clear hw
          have HSL := Lib.hid hsl
          have HB4 := Lib.hid hb
          have HRN4 := Lib.hid (HRN2.out.later hb)
          have hfr : Fr (fun k => d.S k ∨ Bk A' k ∨ wr.heap.size ≤ k) w2 w4 := Fr.of_below hb
          clear hb hsl
          refine hK.out _ _ hfr (fun hHeld => ?_)
          clear hK K hHeld
          try simp only [Act.put, List.setIfInBounds_toArray, List.set_cons_zero, List.set_cons_succ]
          refine wpAnyH_re (S' := fun w' => Fr (fun k => d.S k ∨ Bk A' k ∨ wr.heap.size ≤ k) w4 w') (fun w' h => hfr.trans h) ?_
          clear hfr
          refine wpAnyH_ready (rs := [15]) (by kernel_rfl) (by simp) ?_
          refine AllReadyH.cons (o := ⟨some 38, _, _, _, _, _⟩) rfl (fun K hK => ?_) AllReadyH.nil
          refine wp_append_rn (o := ⟨some 38, _, _, _, _, _⟩) (.tmp 23) (.tmp 37) 88 88 rfl i0 (.int .i64 0) 8 Try.underlying88 Hi.out Hz0.out Hz1.out Hz2.out rfl (by decide) rfl HRN4.out (.slice (some ⟨w2.heap.size, 0, none⟩) 1 1) 1 [.int .i64 v] rfl (HSL.out.src Try.underlying88 (by decide) (fun u hu => by simp at hu; rw [hu]; rfl)) (by unfold maxLen; omega) (by omega) ?_
          intro A5 c5 w5 hrn5 hf5 ho5
          have hfr : Fr (fun k => d.S k ∨ Bk A' k ∨ wr.heap.size ≤ k) w4 w5 := hf5.mono (fun b hb => .inr (.inl hb))
          have HRN5 := Lib.hid hrn5
          have HST := Lib.hid (ans_step DK.lay HRN.out HA'.out HNX.out HAR.out HN3.out ((Fr.of_below HB4.out).trans hf5) (ho5.imp id (fun e => ⟨_, e, HB4.out.size⟩)))
          clear hrn5 hf5 ho5
          refine hK.out _ _ hfr (fun hHeld => ?_)
          clear hK K hHeld
          try simp only [Act.put, List.setIfInBounds_toArray, List.set_cons_zero, List.set_cons_succ]
          refine wpAnyH_re (S' := fun w' => Fr (fun k => d.S k ∨ Bk A' k ∨ wr.heap.size ≤ k) w5 w') (fun w' h => hfr.trans h) ?_
          clear hfr
          refine wpAnyH_take (i := 16) (oi := ⟨some 7, _, _, _, _, _⟩) (v := ?vr16) rfl (by kernel_rfl) (by kernel_rfl) (by kernel_rfl) (fun _ _ _ h => h) (Or.inl ⟨by rfl, ?yr16⟩) (Fr.refl _ _) ?rr16
          case yr16 =>
            intro wq hSw
            (try dsimp only at hSw)
            first | (go_simp; done) | (go_simp; with_reducible rfl)
          try simp only [Act.put, List.setIfInBounds_toArray, List.set_cons_zero, List.set_cons_succ]
          refine wpAnyH_done (by kernel_rfl) ?_ _
          go_wp2_with fail
          go_roundw
          case rel =>
            refine ⟨t + 1, k + 1, A5, c5, S3, by omega, by go_num, rfl, by omega, ?_, ?_, HST.out.2.2, ?_, HST.out.2.1⟩
            · rw [putA_yes HX.out HRT.out h0, List.length_append, ← HKE.out]; rfl
            · rw [putA_yes HX.out HRT.out h0, icells_append, ← HV.out]; exact HRN5.out
            · have := HST.out.1
              rw [putS, ← putF_yes (x := x) HRT.out h0, upTo_set (F := putF rs z) HX.out] at this
              exact this
          case measure => simp [intOf]; omega
        · have h0i : ¬ (0 : Int) < (ro.length : Int) := by omega
          have HM := Lib.hid (show AP Rep wr S' A (putS xs rs z (t + 1)) by
            rw [putS, upTo_same HX.out (putF_no HRT.out h0)]
            exact ⟨_, c, ds, HA.out, HXS.out⟩)
          clear hs3 hb3 hc hkr hdS hwt hrep ha hxs hd hx hnx hg hxe hdx hrt hroe hrn hA' hke hTb
          go_wp2_with fail
          clear c0 cg hcell
          go_roundw
          case rel =>
            refine ⟨t + 1, k, A', c', S', by omega, by go_num, rfl, by omega, ?_, ?_, HA'.out, HM.out, HNX.out⟩
            · rw [putA_no HX.out HRT.out h0]; exact HKE.out
            · rw [putA_no HX.out HRT.out h0]; exact HRN.out
          case measure => simp [intOf]; omega
      · obtain rfl : t = q := by omega
        have HM := Lib.hid (show MutA Rep S A (putS xs rs z t) w wr from ⟨S', ha, hnx⟩)
        have hC := arcount_e hrn.sl (by omega)
        rw [show (putA xs rs z t).count 0 = r from HR.out.symm] at hC
        clear hrn hA' ha hnx hke
        go_wp2_with fail
        refine hC.mono ?_; clear hC; rintro e w3 ⟨rfl, hw3⟩
        obtain rfl : wr = w3 := hw3.symm
        go_wp2_with fail
        go_ret
        exact ⟨rfl, HM.out⟩
end
end Go.Proofs.Ytjjoeaneaibklaa

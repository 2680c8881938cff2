/-
  Contract of package frame's All. Conditions: bounds; of sums: the table reads as the row lists it ('Nt').
-/
import Derived.Test.YtpijfghklgmefaaDoorFre
namespace Go.Proofs.YtpijfghklgmefaaDoor
open Go.RowKit Go.Proofs
set_option linter.unusedVariables false
set_option maxRecDepth 20000
set_option maxHeartbeats 3200000

theorem Gr.from17 {w : World} {A : Option Addr} {n c : Nat} {rs : List (List UInt8)} (h : Gr w A n c rs) (m : Nat) (hm : m ≤ n) : Gr w (if c = m then A else A.map fun x => x.add m) (n - m) (c - m) (rs.drop m) := by
  have hc := h.capLe
  split
  · have e : rs.drop m = [] := List.drop_eq_nil_of_le (by rw [h.len]; omega)
    have e2 : n - m = 0 := by omega
    rw [e, e2]
    exact ⟨⟨[], Sl.empty w 1 A (c - m) (by omega), fun i r h => by simp at h⟩, rfl⟩
  · have := h.sub m n (c - m) hm (Nat.le_refl _) (by omega) (by omega)
    rwa [List.take_of_length_le (by rw [List.length_drop, h.len]; exact Nat.le_refl _)] at this
theorem flat_drop (rs : List (List UInt8)) (m : Nat) : (rs.drop m).flatten.length ≤ rs.flatten.length := by
  conv => rhs; rw [← List.take_append_drop m rs, List.flatten_append, List.length_append]
  omega
/-- What All answers. -/
def RetAll (w : World) (x : List (List UInt8) × Nat) (e : Ending) (w' : World) : Prop :=
  ∃ A c, e = .returned (.tuple #[.slice A x.1.length c, .int .i64 (x.2 : Int)]) ∧ Gr w' A x.1.length c x.1 ∧ Below w.heap.size w w'
theorem oth_new {w : World} {n c : Nat} {A A2 : Option Addr} {n2 : Nat} {rs : List (List UInt8)} (h : Gr w A n c rs) (h0 : n = 0 → A = none) (hl : ∀ b o, 0 < n2 → A2 = some ⟨b, o, none⟩ → w.heap.size ≤ b) : Oth A A2 n2 := by
  intro b o o' hn e1 e2
  have h1 := hl b o hn e1
  rcases Nat.eq_zero_or_pos n with h2 | h2
  · rw [h0 h2] at e2; cases e2
  · obtain ⟨vs, hs, _⟩ := h.ex
    have := hs.lt (by decide) h2 e2
    omega
theorem all17_any (A : Option Addr) (n c : Nat) (rs : List (List UInt8)) (w : World) (h : Gr w A n c rs) (hb : rs.flatten.length ≤ 1000000) (hn : n ≤ 1000000) (hN : Nt w) :
    Calls Tryd.prog 18 #[.slice A n c] w (RetAll w (allF rs)) := by
  have HH := Lib.hid h
  have NN := Lib.hid hN
  have HB := Lib.hid hb
  clear h hN hb
  go_enter Tryd.func18, Tryd.ntmps18
  go_wp2_with fail
  go_loopg [4, 5] (n + 1) (fun gk tv mv wr => ∃ (m f : Nat) (ts : List (List UInt8)) (A4 : Option Addr) (c4 : Nat), tv = .slice A4 ts.length c4 ∧ mv = .int .i64 (m : Int) ∧ m ≤ n ∧ n - m < gk ∧ n - m < f ∧ ts.length ≤ m ∧ Gg wr w.heap.size A4 ts.length c4 ts ∧ (ts.length = 0 → A4 = none) ∧ Below w.heap.size w wr ∧ ts ++ (allL f (rs.drop m)).1 = (allF rs).1 ∧ m + (allL f (rs.drop m)).2 = (allF rs).2)
  case atStart => exact ⟨0, rs.length + 1, [], none, 0, rfl, rfl, by omega, by omega, by rw [HH.out.len]; omega, by decide, Gg.nil _ _, fun _ => rfl, Below.refl _ _, rfl, by rw [Nat.zero_add]; rfl⟩
  case round =>
    obtain ⟨G, hG⟩ : ∃ x, x = gk := ⟨_, rfl⟩
    subst hG
    obtain ⟨m, f, ts, A4, c4, htv, hmv, hm, hgk, hf, htm, hgg, ha0, hbe, h1, h2⟩ := hrel
    subst htv hmv
    obtain ⟨f, rfl⟩ : ∃ k, f = k + 1 := ⟨f - 1, by omega⟩
    have hcl := HH.out.capLe
    have GG := Lib.hid hgg
    have BE := Lib.hid hbe
    have A0 := Lib.hid ha0
    by_cases hcm : c = m
    · obtain rfl : n = m := by omega
      obtain rfl : n = c := by omega
      have hd : rs.drop n = [] := List.drop_eq_nil_of_le (by rw [HH.out.len]; exact Nat.le_refl _)
      have hj : joinF [] = ([], 0, 170) := rfl
      rw [hd, allL, hj, if_pos (by decide), List.append_nil] at h1
      rw [hd, allL, hj, if_pos (by decide), Nat.add_zero] at h2
      have hjo := join17_any A 0 0 [] wr ⟨⟨[], Sl.empty wr 1 A 0 (by decide), fun i r h => by simp at h⟩, rfl⟩ (by decide) (by decide) (NN.out.keep hbe)
      rw [hj] at hjo
      have K1 := Lib.hid h1
      have K2 := Lib.hid h2
      clear hgg hbe ha0 h1 h2 hd hj hcl hcm
      go_wp2_with fail
      refine hjo.mono ?_; clear hjo; rintro e w1 ⟨A6, c6, rfl, hs6, hb6, hl6⟩
      have B6 := Lib.hid (BE.out.trans (hb6.mono BE.out.size))
      have G6 := Lib.hid (GG.out.later hb6)
      clear hs6 hb6 hl6
      go_wp2_with fail
      go_ret2
      rw [show allF rs = (ts, n) from Prod.ext K1.out.symm K2.out.symm]
      exact ⟨A4, c4, rfl, G6.out.gr, B6.out⟩
    · have hgr := (HH.out.later hbe).from17 m hm
      rw [if_neg hcm] at hgr
      have hmn : (m : Int) ≤ (n : Int) := by omega
      have hcz : ¬ (c : Int) = (m : Int) := by omega
      have hjo := join17_any _ _ _ _ wr hgr (by have := flat_drop rs m; have := HB.out; omega) (by omega) (NN.out.keep hbe)
      have hmany := joinF_many (l := rs.drop m)
      have hjl := joinL_len (rs.drop m) 0 true [] 0
      rw [show joinL 0 true [] 0 (rs.drop m) = joinF (rs.drop m) from rfl] at hjl
      rw [allL] at h1 h2
      obtain ⟨J, hJ⟩ : ∃ x, x = joinF (rs.drop m) := ⟨_, rfl⟩
      rw [← hJ] at hjo h1 h2 hmany hjl
      obtain ⟨tx, q, er⟩ := J
      dsimp only at hjo h1 h2 hmany hjl
      by_cases he : er = 0
      · obtain ⟨hq1, hq2⟩ := hmany he
        rw [if_neg (fun hh => hh he)] at h1 h2
        rw [List.length_drop, HH.out.len] at hq2
        rw [List.drop_drop] at h1 h2
        have K1 := Lib.hid h1
        have K2 := Lib.hid h2
        subst he
        clear hgg hbe ha0 h1 h2 hJ hgr hmany hcl
        go_wp2_with fail
        refine hjo.mono ?_; clear hjo; rintro e w1 ⟨A6, c6, rfl, hs6, hb6, hl6⟩
        have B6 := Lib.hid (BE.out.trans (hb6.mono BE.out.size))
        have G6 := Lib.hid (GG.out.later hb6)
        have OT := Lib.hid (oth_new (GG.out.gr) A0.out hl6)
        have S6 := Lib.hid hs6
        clear hs6 hb6 hl6
        go_wp2_with (at_builtin; refine wpList_append_g1 (B := w.heap.size) rfl (.tmp 21) (.tmp 23) rfl rfl G6.out B6.out.size A6 tx.length c6 tx rfl S6.out OT.out rfl (by omega) ?_)
        intro A7 c7 w7 hg7 hb7 hf7
        have G7 := Lib.hid hg7
        have B7 := Lib.hid (B6.out.trans hb7)
        clear hg7 hb7 hf7
        go_wp2_with fail
        go_roundg (G - 1)
        case measure => omega
        case rel =>
          have hll : (ts ++ [tx]).length = ts.length + 1 := by simp
          refine ⟨m + q, f, ts ++ [tx], A7, c7, by rw [hll], by go_num, by omega, by omega, by omega, by omega, by rw [hll]; exact G7.out, fun h0 => by omega, B7.out, ?_, ?_⟩
          · rw [List.append_assoc]
            exact K1.out
          · have := K2.out
            omega
      · rw [if_pos he, List.append_nil] at h1
        rw [if_pos he, Nat.add_zero] at h2
        have hez : ¬ (er : Int) = 0 := by omega
        have K1 := Lib.hid h1
        have K2 := Lib.hid h2
        clear hgg hbe ha0 h1 h2 hJ hgr hmany hcl hjl he
        go_wp2_with fail
        refine hjo.mono ?_; clear hjo; rintro e w1 ⟨A6, c6, rfl, hs6, hb6, hl6⟩
        have B6 := Lib.hid (BE.out.trans (hb6.mono BE.out.size))
        have G6 := Lib.hid (GG.out.later hb6)
        clear hs6 hb6 hl6
        go_wp2_with fail
        go_ret2
        rw [show allF rs = (ts, m) from Prod.ext K1.out.symm K2.out.symm]
        exact ⟨A4, c4, rfl, G6.out.gr, B6.out⟩
end Go.Proofs.YtpijfghklgmefaaDoor

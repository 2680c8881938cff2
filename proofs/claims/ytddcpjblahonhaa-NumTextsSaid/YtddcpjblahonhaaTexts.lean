/-
  The statement's function NumTexts returns true, whatever the bytes, the place, the text and the bound. No condition.
-/
import Derived.Test.YtddcpjblahonhaaLaw
namespace Go.Proofs.Ytddcpjblahonhaa
open Go.RowKit
set_option linter.unusedVariables false

set_option maxHeartbeats 1000000 in
set_option maxRecDepth 20000 in
theorem numTexts_walk (A : Option Addr) (n c : Nat) (l : List UInt8) (at_ : Int) (t : ByteArray) (most : Int) (w : World) (h : Sl w 1 A n c (cells l)) (ht : t.size ≤ maxLen) (hm : most < 2 ^ 63) (hm' : -2 ^ 63 ≤ most) :
    Calls Try.prog 5 #[.slice A n c, .int .i64 at_, .string t, .int .i64 most] w (RetTrue w) := by
  have hn := h.lim
  unfold maxLen at hn ht
  by_cases hbig : n > 2000
  · have hb' : (n : Int) > 2000 := by omega
    go_enter Try.func5, Try.ntmps5
    go_wp2_with fail
    refine (read_any _).mono ?_; rintro e w1 ⟨rfl, hb1⟩
    go_wp2_with fail
    go_ret
    exact ⟨rfl, hb1⟩
  have hb' : ¬ (n : Int) > 2000 := by omega
  by_cases hbig2 : t.size > 2000
  · have hb2' : (t.size : Int) > 2000 := by omega
    clear hbig hbig2
    go_enter Try.func5, Try.ntmps5
    go_wp2_with fail
    refine (read_any _).mono ?_; rintro e w1 ⟨rfl, hb1⟩
    go_wp2_with fail
    go_ret
    exact ⟨rfl, hb1⟩
  have hb2' : ¬ (t.size : Int) > 2000 := by omega
  have hts : n + t.size ≤ 140737488355200 := by omega
  have htm : t.size ≤ maxLen := by unfold maxLen; omega
  obtain ⟨v, p, e0, hg⟩ : ∃ v p e, longR l at_ most = (v, p, e) := ⟨_, _, _, rfl⟩
  have hn47 : n ≤ 140737488355328 := by omega
  have H := Lib.hid h; clear h
  have Hg := Lib.hid hg; clear hg
  have Hts := Lib.hid hts; clear hts
  have Htm := Lib.hid htm; clear htm
  have Hn47 := Lib.hid hn47; clear hn47
  have Hm := Lib.hid hm; clear hm
  have Hm' := Lib.hid hm'; clear hm'
  clear hbig hbig2 hn ht
  go_enter Try.func5, Try.ntmps5
  go_wp2_with fail
  have htext := text_any A n c l at_ most w H.out Hm.out Hm'.out
  have hbytes := bytes_any A n c l at_ most w H.out Hn47.out Hm.out Hm'.out
  rw [Hg.out] at htext hbytes
  have Hbytes := Lib.hid hbytes; clear hbytes
  refine htext.mono ?_; clear htext; rintro e w' ⟨rfl, rfl⟩
  go_wp2_with fail
  refine Hbytes.out.mono ?_; rintro e w1 ⟨A1, n1, c1, rfl, h1, hb1, -⟩
  have H1 := Lib.hid h1; clear h1 Hbytes
  go_wp2_with fail
  have hrtext := rtext_any A n c l at_ most w1 (H.out.below hb1 (Nat.le_refl _)) Hm.out Hm'.out
  rw [Hg.out] at hrtext
  refine hrtext.mono ?_; clear hrtext; rintro e w' ⟨rfl, rfl⟩
  go_wp2_with fail
  refine (putText_any A n c l t _ (H.out.below hb1 (Nat.le_refl _)) Hts.out).mono ?_; rintro e w2 ⟨A2, n2, c2, rfl, h2, hb2⟩
  have H2 := Lib.hid h2; clear h2
  have hb02 : Below w.heap.size w w2 := hb1.trans (hb2.mono hb1.size)
  have H1' := Lib.hid (H1.out.below hb2 (Nat.le_refl _))
  clear hb2 hb1 H1
  go_wp2_with fail
  refine (rputText_any A n c l t _ (H.out.below hb02 (Nat.le_refl _)) Hts.out).mono ?_; rintro e w3 ⟨A3, n3, c3, rfl, h3, hb3⟩
  have H3 := Lib.hid h3; clear h3
  have hb03 : Below w.heap.size w w3 := hb02.trans (hb3.mono hb02.size)
  have H1 := Lib.hid (H1'.out.below hb3 (Nat.le_refl _))
  have H2' := Lib.hid (H2.out.below hb3 (Nat.le_refl _))
  clear hb3 hb02 H1' H2
  go_wp2_with fail
  refine (same_true A2 A3 n2 c2 n3 c3 _ _ H2'.out H3.out).mono ?_; rintro e w' ⟨rfl, rfl⟩
  obtain ⟨A4, c4, w4, hr, h4, hb4⟩ := run_bytes_of (P := Try.prog) w3 9 22 5 Try.underlying9 Try.underlying22 Try.underlying5 t Htm.out
  have H4 := Lib.hid h4; clear h4
  clear H2' H3
  go_wp2_with fail
  clear hr
  have hb04 : Below w.heap.size w w4 := hb03.trans (hb4.mono hb03.size)
  have H1' := Lib.hid (H1.out.below hb4 (Nat.le_refl _))
  clear hb4 hb03 H1
  refine (putBytes_any A n c l A4 t.size c4 t.data.toList _ (H.out.below hb04 (Nat.le_refl _)) H4.out Hts.out).mono ?_; rintro e w5 ⟨A5, n5, c5, rfl, h5, hb5⟩
  have H5 := Lib.hid h5; clear h5
  have hb05 : Below w.heap.size w w5 := hb04.trans (hb5.mono hb04.size)
  have H1 := Lib.hid (H1'.out.below hb5 (Nat.le_refl _))
  clear hb5 hb04 H1' H4
  go_wp2_with fail
  refine (rputText_any A n c l t _ (H.out.below hb05 (Nat.le_refl _)) Hts.out).mono ?_; rintro e w6 ⟨A6, n6, c6, rfl, h6, hb6⟩
  have H6 := Lib.hid h6; clear h6
  have hb06 : Below w.heap.size w w6 := hb05.trans (hb6.mono hb05.size)
  have H1' := Lib.hid (H1.out.below hb6 (Nat.le_refl _))
  have H5' := Lib.hid (H5.out.below hb6 (Nat.le_refl _))
  clear hb6 hb05 H1 H5
  go_wp2_with fail
  refine (same_true A5 A6 n5 c5 n6 c6 _ _ H5'.out H6.out).mono ?_; rintro e w' ⟨rfl, rfl⟩
  have k1 := run_string_of (P := Try.prog) (w := w6) 22 5 9 Try.underlying22 Try.underlying5 Try.underlying9 H1'.out
  clear H5' H6
  go_wp2_with fail
  refine (read_any _).mono ?_; rintro e w7 ⟨rfl, hb7⟩
  go_wp2_with fail
  go_ret
  exact ⟨rfl, hb06.trans (hb7.mono hb06.size)⟩
end Go.Proofs.Ytddcpjblahonhaa

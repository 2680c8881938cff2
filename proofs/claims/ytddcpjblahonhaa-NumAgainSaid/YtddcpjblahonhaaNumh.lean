/-
  Contracts of package num's putLong, PutText, PutBytes, long, Text, Bytes and of the document's answers PutText, Text. Condition: slices and texts together shorter than 2^47 less 40.
-/
import Derived.Test.YtddcpjblahonhaaNumg
import Derived.Test.YtddcpjblahonhaaNume
import Derived.Test.YtddcpjblahonhaaNumf
import Derived.Test.YtddcpjblahonhaaMathb
namespace Go.Proofs.Ytddcpjblahonhaa
open Go.RowKit
set_option linter.unusedVariables false

set_option maxHeartbeats 400000 in
theorem putLongS_any (A : Option Addr) (n c : Nat) (l : List UInt8) (t : ByteArray) (w : World) (h : Sl w 1 A n c (cells l)) (h47 : n + t.size ≤ 140737488355200) :
    Calls Try.prog 33 #[.slice A n c, .string t] w (RetBytes w.heap.size w (l ++ venc 9 t.size ++ t.data.toList)) := by
  go_enter Try.func33, Try.ntmps33
  go_wp2_with fail
  refine (cut_any A n c h.cap h.top _).mono ?_; rintro e w' ⟨rfl, rfl⟩
  go_wp2_with fail
  refine (appendVar_any A n n w.heap.size l t.size _ (Own.full (h.recap (Nat.le_refl _) h.lim)) (Nat.le_refl _) (by omega) (by omega)).mono ?_; rintro e w1 ⟨A1, n1, c1, rfl, h1, hb⟩
  have hl1 : n1 ≤ n + 10 := by
    have a := h1.sl.len
    have b := h.len
    have d := venc_length 9 t.size
    rw [cells_length, List.length_append] at a
    rw [cells_length] at b
    omega
  have hz := hb.size
  go_wp2_with (at_builtin; refine wpList_append_s (B := w.heap.size) rfl (.tmp 10) (.tmp 11) rfl rfl h1 hz t rfl ?c3 ?c4)
  case c3 => omega
  intro A2 c2 w2 ho2 hb2
  go_wp2_with fail
  refine (cut_any A2 (n1 + t.size) c2 ho2.sl.cap ho2.sl.top _).mono ?_; rintro e w' ⟨rfl, rfl⟩
  go_wp2_with fail
  go_ret
  exact ⟨A2, n1 + t.size, n1 + t.size, rfl, by rw [cells_append (l ++ venc 9 t.size)]; exact ho2.sl.recap (Nat.le_refl _) ho2.sl.lim, hb.trans hb2⟩

set_option maxHeartbeats 400000 in
theorem putLongB_any (A : Option Addr) (n c : Nat) (l : List UInt8) (At : Option Addr) (nt ct : Nat) (t : List UInt8) (w : World) (h : Sl w 1 A n c (cells l)) (ht : Sl w 1 At nt ct (cells t)) (h47 : n + nt ≤ 140737488355200) :
    Calls Try.prog 34 #[.slice A n c, .slice At nt ct] w (RetBytes w.heap.size w (l ++ venc 9 nt ++ t)) := by
  go_enter Try.func34, Try.ntmps34
  go_wp2_with fail
  refine (cut_any A n c h.cap h.top _).mono ?_; rintro e w' ⟨rfl, rfl⟩
  go_wp2_with fail
  refine (appendVar_any A n n w.heap.size l nt _ (Own.full (h.recap (Nat.le_refl _) h.lim)) (Nat.le_refl _) (by omega) (by omega)).mono ?_; rintro e w1 ⟨A1, n1, c1, rfl, h1, hb⟩
  have hl1 : n1 ≤ n + 10 := by
    have a := h1.sl.len
    have b := h.len
    have d := venc_length 9 nt
    rw [cells_length, List.length_append] at a
    rw [cells_length] at b
    omega
  have hz := hb.size
  go_wp2_with (at_builtin; refine wpList_append_b (B := w.heap.size) rfl (.tmp 10) (.tmp 11) rfl rfl h1 hz At nt ct t rfl (ht.below hb (Nat.le_refl _)) ?c3 ?c4)
  case c3 => omega
  intro A2 c2 w2 ho2 hb2
  go_wp2_with fail
  refine (cut_any A2 (n1 + nt) c2 ho2.sl.cap ho2.sl.top _).mono ?_; rintro e w' ⟨rfl, rfl⟩
  go_wp2_with fail
  go_ret
  exact ⟨A2, n1 + nt, n1 + nt, rfl, by rw [cells_append (l ++ venc 9 nt)]; exact ho2.sl.recap (Nat.le_refl _) ho2.sl.lim, hb.trans hb2⟩

set_option maxHeartbeats 400000 in
theorem putText_any (A : Option Addr) (n c : Nat) (l : List UInt8) (t : ByteArray) (w : World) (h : Sl w 1 A n c (cells l)) (h47 : n + t.size ≤ 140737488355200) :
    Calls Try.prog 21 #[.slice A n c, .string t] w (RetBytes w.heap.size w (l ++ venc 9 t.size ++ t.data.toList)) := by
  go_enter Try.func21, Try.ntmps21
  go_wp2_with fail
  refine (putLongS_any A n c l t _ h h47).mono ?_; rintro e w1 ⟨A1, n1, c1, rfl, h1, hb⟩
  go_wp2_with fail
  go_ret
  exact ⟨A1, n1, c1, rfl, h1, hb⟩

set_option maxHeartbeats 400000 in
theorem putBytes_any (A : Option Addr) (n c : Nat) (l : List UInt8) (At : Option Addr) (nt ct : Nat) (t : List UInt8) (w : World) (h : Sl w 1 A n c (cells l)) (ht : Sl w 1 At nt ct (cells t)) (h47 : n + nt ≤ 140737488355200) :
    Calls Try.prog 23 #[.slice A n c, .slice At nt ct] w (RetBytes w.heap.size w (l ++ venc 9 nt ++ t)) := by
  go_enter Try.func23, Try.ntmps23
  go_wp2_with fail
  refine (putLongB_any A n c l At nt ct t _ h ht h47).mono ?_; rintro e w1 ⟨A1, n1, c1, rfl, h1, hb⟩
  go_wp2_with fail
  go_ret
  exact ⟨A1, n1, c1, rfl, h1, hb⟩

set_option maxHeartbeats 400000 in
theorem rputText_any (A : Option Addr) (n c : Nat) (l : List UInt8) (t : ByteArray) (w : World) (h : Sl w 1 A n c (cells l)) (h47 : n + t.size ≤ 140737488355200) :
    Calls Try.prog 22 #[.slice A n c, .string t] w (RetBytes w.heap.size w (l ++ venc 9 t.size ++ t.data.toList)) := by
  go_enter Try.func22, Try.ntmps22
  go_wp2_with fail
  refine (rputVar_any A n c l t.size _ h (by omega) (by omega)).mono ?_; rintro e w1 ⟨A1, n1, c1, rfl, h1, hb⟩
  have hl1 : n1 ≤ n + 10 := by
    have a := h1.len
    have b := h.len
    have d := venc_length 9 t.size
    rw [cells_length, List.length_append] at a
    rw [cells_length] at b
    omega
  obtain ⟨A2, c2, w2, hr, h2, hb2⟩ := run_bytes_of (P := Try.prog) w1 9 22 5 Try.underlying9 Try.underlying22 Try.underlying5 t (by unfold maxLen; omega)
  go_wp2_with fail
  clear hr
  refine (joined_any A1 A2 n1 c1 t.size c2 (l ++ venc 9 t.size) t.data.toList _ (h1.below hb2 (Nat.le_refl _)) h2 (by omega)).mono ?_; rintro e w3 ⟨A3, n3, c3, rfl, h3, hb3⟩
  go_wp2_with fail
  go_ret
  exact ⟨A3, n3, c3, rfl, h3, hb.trans ((hb2.mono hb.size).trans (hb3.mono (Nat.le_trans hb.size hb2.size)))⟩
end Go.Proofs.Ytddcpjblahonhaa

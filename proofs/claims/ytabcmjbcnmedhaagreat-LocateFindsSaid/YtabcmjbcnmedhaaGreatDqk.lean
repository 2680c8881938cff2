/-
  Contracts of package locate's Find and Close. Condition: the coder is one that New made, or nil.
-/
import Derived.Test.YtabcmjbcnmedhaaGreatDqj
import Derived.Test.YtabcmjbcnmedhaaGreatDqc
namespace Go.Proofs.YtabcmjbcnmedhaaGreat
open Go.RowKit Go.Proofs
set_option linter.unusedVariables false

/-- May rows be looked for? -/
def okF (k m : Nat) (rs : List (List UInt8)) (most : Int) : Bool := bearsB k m most && evenB rs ((k : Int) + (m : Int))
/-- What Find answers. -/
def RetFind (k m : Nat) (rs : List (List UInt8)) (most : Int) (w : World) (e : Ending) (w' : World) : Prop :=
  ((okF k m rs most = false ∧ e = .returned (.tuple #[.slice none 0 0, .slice none 0 0, .int .i64 2])) ∨
    (okF k m rs most = true ∧ ((∃ A1 c1 A2 q2 c2 ds, e = .returned (.tuple #[.slice A1 (k + m) c1, .slice A2 q2 c2, .int .i64 0]) ∧ Gr w' A1 (k + m) c1 (ds ++ parL k ds m) ∧ Sl w' 1 A2 q2 c2 (ncells (difL rs (ds ++ parL k ds m) (k + m))) ∧ Lev k (rs.getD 0 []).length ds ∧ (offs k m rs ds : Int) ≤ most) ∨
      (e = .returned (.tuple #[.slice none 0 0, .slice none 0 0, .int .i64 80]) ∧ ∀ ds, Lev k (rs.getD 0 []).length ds → ¬ (offs k m rs ds : Int) ≤ most)))) ∧ Below w.heap.size w w'
theorem even_lev {rs : List (List UInt8)} {k m : Nat} (h : evenB rs ((k : Int) + (m : Int)) = true) (hk : 1 ≤ k) : Lev (k + m) (rs.getD 0 []).length rs := by
  rw [evenB, Bool.and_eq_true] at h
  have hl := of_decide_eq_true h.1
  have hl2 : rs.length = k + m := by omega
  exact ⟨hl2, fun i hi => levelB_at h.2 (by omega)⟩

theorem RetDif_eq (rs bs : List (List UInt8)) {q : Nat} (h : max rs.length bs.length = q) : RetDif rs bs = fun w e w' => ∃ A n c, e = .returned (.slice A n c) ∧ Sl w' 1 A n c (ncells (difL rs bs q)) ∧ Below w.heap.size w w' := by
  subst h
  rfl

set_option maxRecDepth 20000 in
theorem find_nil (v z : Value) (w : World) :
    Calls Tryz.prog 16 #[.pointer none, v, z] w fun e w' => e = .returned (.tuple #[.slice none 0 0, .slice none 0 0, .int .i64 1]) ∧ w' = w := by
  go_enter Tryz.func16, Tryz.ntmps16
  go_wp2_with fail
  refine (lmade_no _).mono ?_; rintro e w1 ⟨rfl, rfl⟩
  go_wp2_with fail
  go_ret3
  exact ⟨rfl, rfl⟩
set_option maxRecDepth 20000 in
theorem close_nil (v z : Value) (w : World) :
    Calls Tryz.prog 19 #[.pointer none, v, z] w fun e w' => e = .returned (.int .i64 (-1)) ∧ w' = w := by
  go_enter Tryz.func19, Tryz.ntmps19
  go_wp2_with fail
  refine (find_nil _ _ _).mono ?_; rintro e w1 ⟨rfl, rfl⟩
  go_wp2_with fail
  go_ret
  exact ⟨rfl, rfl⟩

set_option maxRecDepth 100000 in
set_option maxHeartbeats 3200000 in
theorem find_any (C k m F T : Nat) (A : Option Addr) (n c : Nat) (rs : List (List UInt8)) (most : Int) (hm1 : -9223372036854775808 ≤ most) (hm2 : most < 9223372036854775808) (w : World) (h : Cod w C k m F T) (hg : Gr w A n c rs) (hW : ∀ r ∈ rs, r.length ≤ 1048576) :
    Calls Tryz.prog 16 #[.pointer (some ⟨C, 0, none⟩), .slice A n c, .int .i64 most] w (RetFind k m rs most w) := by
  have hmk := lmade_yes C k m F T w h
  have hbe := bears_any C k m F T most hm1 hm2 w h
  have hk1 := h.k1
  have hmm1 := h.m1
  have h255 := h.n255
  have hlen := hg.len
  obtain ⟨x, hx⟩ : ∃ x, x = bearsB k m most := ⟨_, rfl⟩
  rw [← hx] at hbe
  have H := Lib.hid h
  have HG := Lib.hid hg
  have HW := Lib.hid hW
  have Hx := Lib.hid hx
  have Hlen := Lib.hid hlen
  clear h hg hW hx hlen
  go_enter Tryz.func16, Tryz.ntmps16
  go_wp2_with fail
  refine hmk.mono ?_; clear hmk; rintro e w1 ⟨rfl, hw1⟩
  obtain rfl : w = w1 := hw1.symm
  go_wp2_with fail
  refine hbe.mono ?_; clear hbe; rintro e w2 ⟨rfl, hb2⟩
  have Hb2 := Lib.hid hb2
  have hw2 := hb2.size
  clear hb2
  cases x
  · go_wp2_with fail
    go_ret3
    exact ⟨.inl ⟨by rw [okF, ← Hx.out]; rfl, rfl⟩, Hb2.out⟩
  · have hcn := cn_any C k m F T w2 (H.out.later Hb2.out)
    go_wp2_with fail
    refine hcn.mono ?_; clear hcn; rintro e w3 ⟨rfl, hb3⟩
    have Hb3 := Lib.hid (Hb2.out.trans (hb3.mono hw2))
    have hw3 := Hb3.out.size
    clear hb3
    have hh := lfit_any A n c rs ((k + m : Nat) : Int) w3 (HG.out.later Hb3.out)
    obtain ⟨y, hy⟩ : ∃ y, y = evenB rs ((k + m : Nat) : Int) := ⟨_, rfl⟩
    rw [← hy] at hh
    rw [Int.natCast_add] at hy
    have Hy := Lib.hid hy
    clear hy
    go_wp2_with fail
    refine hh.mono ?_; clear hh; rintro e w4 ⟨rfl, hb4⟩
    have Hb4 := Lib.hid (Hb3.out.trans (hb4.mono hw3))
    have hw4 := Hb4.out.size
    clear hb4
    cases y
    · go_wp2_with fail
      go_ret3
      exact ⟨.inl ⟨by rw [okF, ← Hx.out, ← Hy.out]; rfl, rfl⟩, Hb4.out⟩
    · have hlv := even_lev Hy.out.symm hk1
      have hok : okF k m rs most = true := by rw [okF, ← Hx.out, ← Hy.out]; rfl
      have hbear := of_decide_eq_true Hx.out.symm
      obtain ⟨q, hq⟩ : ∃ q : Nat, most = (q : Int) := ⟨most.toNat, by omega⟩
      obtain rfl : n = k + m := by rw [← Hlen.out, hlv.len]
      subst hq
      have hV : (rs.getD 0 []).length ≤ 1048576 := HW.out _ (List.mem_of_getElem? (HG.out.get (show 0 < k + m by omega)))
      have hh := nearest_any C k m F T _ q A c rs w4 (H.out.later Hb4.out) (HG.out.later Hb4.out) hlv hV (by omega)
      have Hok := Lib.hid hok
      have Hlv := Lib.hid hlv
      have hq2 : q ≤ 2 := by omega
      clear hlv hok hbear hV
      go_wp2_with fail
      refine hh.mono ?_; clear hh; rintro e w5 ⟨hR, hb5⟩
      have Hb5 := Lib.hid (Hb4.out.trans (hb5.mono hw4))
      have hw5 := Hb5.out.size
      clear hb5
      rcases hR with ⟨b, o, c', ds, rfl, hG5, hd, hle⟩ | ⟨rfl, hno⟩
      · have hqn := eql_nil w5 b o (k + m) c'
        have hdf := differ_any A (k + m) c rs (some ⟨b, o, none⟩) (k + m) c' (ds ++ parL k ds m) w5 (HG.out.later Hb5.out) hG5 (by omega) (by omega)
        rw [RetDif_eq (q := k + m) rs _ (by rw [Hlv.out.len, hd.all_len, Nat.max_self])] at hdf
        have HG5 := Lib.hid hG5
        have Hd := Lib.hid hd
        have Hle := Lib.hid hle
        clear hG5 hd hle
        go_wp2_with fail
        clear hqn
        refine hdf.mono ?_; clear hdf; rintro e w6 ⟨A2, q2, c2, rfl, hs, hb6⟩
        have Hs := Lib.hid hs
        have HG6 := Lib.hid (HG5.out.later hb6)
        have Hb6 := Lib.hid (Hb5.out.trans (hb6.mono hw5))
        clear hs hb6
        go_wp2_with fail
        go_ret3
        exact ⟨.inr ⟨Hok.out, .inl ⟨_, _, _, _, _, ds, rfl, HG6.out, Hs.out, Hd.out, by have := Hle.out; omega⟩⟩, Hb6.out⟩
      · have hqn := eql_nil0 w5
        have Hno := Lib.hid hno
        clear hno
        go_wp2_with fail
        go_ret3
        exact ⟨.inr ⟨Hok.out, .inr ⟨rfl, fun ds hd h => Hno.out ds hd (by omega)⟩⟩, Hb5.out⟩

/-- What Close answers. -/
def RetClose (k m : Nat) (rs : List (List UInt8)) (most : Int) (w : World) (e : Ending) (w' : World) : Prop :=
  ((e = .returned (.int .i64 (-1)) ∧ (okF k m rs most = false ∨ ∀ ds, Lev k (rs.getD 0 []).length ds → ¬ (offs k m rs ds : Int) ≤ most)) ∨
    (∃ ds, e = .returned (.int .i64 ((offs k m rs ds : Nat) : Int)) ∧ okF k m rs most = true ∧ Lev k (rs.getD 0 []).length ds ∧ (offs k m rs ds : Int) ≤ most)) ∧ Below w.heap.size w w'
set_option maxRecDepth 20000 in
set_option maxHeartbeats 800000 in
theorem close_any (C k m F T : Nat) (A : Option Addr) (n c : Nat) (rs : List (List UInt8)) (most : Int) (hm1 : -9223372036854775808 ≤ most) (hm2 : most < 9223372036854775808) (w : World) (h : Cod w C k m F T) (hg : Gr w A n c rs) (hW : ∀ r ∈ rs, r.length ≤ 1048576) :
    Calls Tryz.prog 19 #[.pointer (some ⟨C, 0, none⟩), .slice A n c, .int .i64 most] w (RetClose k m rs most w) := by
  have hh := find_any C k m F T A n c rs most hm1 hm2 w h hg hW
  clear h hg hW
  go_enter Tryz.func19, Tryz.ntmps19
  go_wp2_with fail
  refine hh.mono ?_; clear hh; rintro e w1 ⟨hR, hb⟩
  have Hb := Lib.hid hb
  clear hb
  rcases hR with ⟨hno, rfl⟩ | ⟨hok, ⟨A1, c1, A2, q2, c2, ds, rfl, -, hs, hd, hle⟩ | ⟨rfl, hno⟩⟩
  · have Hno := Lib.hid hno
    clear hno
    go_wp2_with fail
    go_ret
    exact ⟨.inl ⟨rfl, .inl Hno.out⟩, Hb.out⟩
  · have hq := hs.len
    rw [ncells_length, Nat.mul_one] at hq
    have Hq := Lib.hid hq
    have Hok := Lib.hid hok
    have Hd := Lib.hid hd
    have Hle := Lib.hid hle
    clear hq hok hd hle hs
    go_wp2_with fail
    go_ret
    exact ⟨.inr ⟨ds, by rw [offs, Hq.out]; rfl, Hok.out, Hd.out, Hle.out⟩, Hb.out⟩
  · have Hno := Lib.hid hno
    clear hno hok
    go_wp2_with fail
    go_ret
    exact ⟨.inl ⟨rfl, .inr fun ds hd h => absurd h (by have := Hno.out ds hd; omega)⟩, Hb.out⟩
end Go.Proofs.YtabcmjbcnmedhaaGreat

/-
  Contracts of package delta's small calls: made, hasData, fit; of bytes.Equal, and of Scale with a field whose tables are made. Condition: the coder is one that New made ('Cod').
  Contracts of package delta's turn: factor, alone, added. Condition: the coder is one that New made ('Cod'). (Written by gen_dpb.py.)
  Contracts of package delta's rows, Spread and Update. Condition: the coder is one that New made ('Cod'). (Written by gen_dpc.py.)
  Contracts of package delta's Off and Holds, and of the document's Ints. Condition: the coder is nil, or one that New made ('Cod'). (Written by gen_dpd.py.)
  Rows of one length, k of them: what a coder makes of them holds. No program but the words of Holds.
-/
import Derived.Test.YtabcmjbcnmedhaaGreatHc
import Derived.Test.YtabcmjbcnmedhaaGreatHb
import Derived.Test.YtabcmjbcnmedhaaGreatHd
namespace Go.Proofs.YtabcmjbcnmedhaaGreat
open Go.RowKit Go.Proofs
set_option linter.unusedVariables false

set_option maxRecDepth 20000 in
theorem dmade_yes (C k m F T : Nat) (w : World) (h : Cod w C k m F T) :
    Calls Tryz.prog 47 #[.pointer (some ⟨C, 0, none⟩)] w fun e w' => e = .returned (.bool true) ∧ w' = w := by
  have hh := cf_any C k m F T w h
  clear h
  go_enter Tryz.func47, Tryz.ntmps47
  go_wp2_with fail
  refine hh.mono ?_; clear hh; rintro e w1 ⟨rfl, rfl⟩
  go_wp2_with fail
  go_ret
  exact ⟨rfl, rfl⟩
set_option maxRecDepth 20000 in
theorem cf_nil (w : World) : Calls Tryz.prog 38 #[.pointer none] w fun e w' => e = .returned (.pointer none) ∧ w' = w := by
  go_enter Tryz.func38, Tryz.ntmps38
  go_wp2_with fail
  go_ret
  exact ⟨rfl, rfl⟩
set_option maxRecDepth 20000 in
theorem dmade_no (w : World) : Calls Tryz.prog 47 #[.pointer none] w fun e w' => e = .returned (.bool false) ∧ w' = w := by
  go_enter Tryz.func47, Tryz.ntmps47
  go_wp2_with fail
  refine (cf_nil _).mono ?_; rintro e w1 ⟨rfl, rfl⟩
  go_wp2_with fail
  go_ret
  exact ⟨rfl, rfl⟩

set_option maxRecDepth 20000 in
theorem fit1_any (b L n c : Nat) (A : Option Addr) (w : World) (hb : w.cell? ⟨b, 0, none⟩ = some (.int .i64 (L : Int))) :
    Calls Tryz.prog 65 #[.slice A n c, .pointer (some ⟨b, 0, none⟩)] w fun e w' => e = .returned (.bool (!decide (n = L))) ∧ w' = w := by
  by_cases h : n = L
  · have hz : ((n : Int) != (L : Int)) = false := by simp [h]
    rw [decide_eq_true h]
    have Hx := Lib.hid h; clear h
    go_enter Tryz.func65, Tryz.ntmps65
    go_wp2_with fail
    go_ret
    exact ⟨by first | rfl | simp [Hx.out], rfl⟩
  · have hz : ((n : Int) != (L : Int)) = true := by simp; omega
    rw [decide_eq_false h]
    have Hx := Lib.hid h; clear h
    go_enter Tryz.func65, Tryz.ntmps65
    go_wp2_with fail
    go_ret
    exact ⟨by first | rfl | (have := Hx.out; simp; omega), rfl⟩

set_option maxRecDepth 20000 in
set_option maxHeartbeats 800000 in
theorem findex_any (b L : Nat) (A : Option Addr) (n c : Nat) (rs : List (List UInt8)) (w : World) (hg : Gr w A n c rs) (hb : w.cell? ⟨b, 0, none⟩ = some (.int .i64 (L : Int))) :
    Calls Tryz.prog 58 #[.slice A n c, .func (.func 65) #[] #[.pointer (some ⟨b, 0, none⟩)]] w
      fun e w' => w' = w ∧ ((e = .returned (.int .i64 (-1)) ∧ ∀ i, i < n → (rs.getD i []).length = L) ∨ ∃ d : Nat, e = .returned (.int .i64 (d : Int)) ∧ d < n ∧ (rs.getD d []).length ≠ L) := by
  have hn := hg.lim
  unfold maxLen at hn
  have Hg := Lib.hid hg; clear hg
  have Hb := Lib.hid hb; clear hb
  go_enter Tryz.func58, Tryz.ntmps58
  go_wp2_with fail
  go_loopw [8] (fun i wr => ∃ k : Nat, k ≤ n ∧ i = .int .i64 (k : Int) ∧ wr = w ∧ ∀ j, j < k → (rs.getD j []).length = L) (fun i _ => n - (intOf i).toNat)
  case atStart => exact ⟨0, by omega, rfl, rfl, fun j hj => absurd hj (by omega)⟩
  case round =>
    obtain ⟨k, hk, rfl, rfl, hz⟩ := hrel
    have Hz := Lib.hid hz; clear hz
    by_cases hlt : k < n
    · obtain ⟨b', o, rfl, hc⟩ := Hg.out.at_ (by omega)
      obtain ⟨A1, c1, hc1, hs1⟩ := hc k _ (Hg.out.get hlt)
      obtain ⟨r, hr⟩ : ∃ r, r = rs.getD k [] := ⟨_, rfl⟩
      rw [← hr] at hc1 hs1
      obtain ⟨q, hq⟩ : ∃ q, q = r.length := ⟨_, rfl⟩
      rw [← hq] at hc1
      have hh := fit1_any b L q c1 A1 wr Hb.out
      clear hc hs1
      have Hr := Lib.hid hr; clear hr
      have Hq := Lib.hid hq; clear hq
      by_cases he : q = L
      · rw [decide_eq_true he] at hh
        have He := Lib.hid he; clear he
        go_wp2_with fail
        refine hh.mono ?_; clear hh; rintro e w' ⟨rfl, rfl⟩
        go_wp2_with fail
        go_roundw
        case rel => exact ⟨k + 1, by omega, by go_num, trivial, fun j hjk => by
          by_cases hj : j = k
          · subst hj; rw [← Hr.out, ← Hq.out, He.out]
          · exact Hz.out j (by omega)⟩
        case measure => simp [intOf]; omega
      · rw [decide_eq_false he] at hh
        have He := Lib.hid he; clear he
        go_wp2_with fail
        refine hh.mono ?_; clear hh; rintro e w' ⟨rfl, rfl⟩
        go_wp2_with fail
        go_ret
        exact ⟨rfl, .inr ⟨k, rfl, hlt, by rw [← Hr.out, ← Hq.out]; exact He.out⟩⟩
    · obtain rfl : k = n := by omega
      go_wp2_with fail
      go_ret
      exact ⟨rfl, .inl ⟨rfl, Hz.out⟩⟩

/-- Are there so many rows, all of that length? -/
def fitB (rs : List (List UInt8)) (many : Int) (L : Nat) : Bool := decide ((rs.length : Int) = many) && decide (∀ i, i < rs.length → (rs.getD i []).length = L)
theorem fitB_ok {rs : List (List UInt8)} {many : Int} {L : Nat} (h : fitB rs many L = true) : (rs.length : Int) = many ∧ ∀ i, i < rs.length → (rs.getD i []).length = L := by
  rw [fitB, Bool.and_eq_true] at h
  exact ⟨of_decide_eq_true h.1, of_decide_eq_true h.2⟩

set_option maxRecDepth 20000 in
theorem fcontains_any (b L : Nat) (A : Option Addr) (n c : Nat) (rs : List (List UInt8)) (w : World) (hg : Gr w A n c rs) (hb : w.cell? ⟨b, 0, none⟩ = some (.int .i64 (L : Int))) :
    Calls Tryz.prog 40 #[.slice A n c, .func (.func 65) #[] #[.pointer (some ⟨b, 0, none⟩)]] w
      fun e w' => w' = w ∧ e = .returned (.bool (!decide (∀ i, i < rs.length → (rs.getD i []).length = L))) := by
  have hh := findex_any b L A n c rs w hg hb
  have hl := hg.len
  have Hl := Lib.hid hl
  clear hg hb hl
  go_enter Tryz.func40, Tryz.ntmps40
  go_wp2_with fail
  refine hh.mono ?_; clear hh; rintro e w' ⟨rfl, ⟨rfl, ha⟩ | ⟨d, rfl, hd, ha⟩⟩
  · have Ha := Lib.hid ha; clear ha
    go_wp2_with fail
    go_ret
    exact ⟨rfl, by rw [decide_eq_true (fun i hi => Ha.out i (by rw [← Hl.out]; exact hi))]; rfl⟩
  · have Ha := Lib.hid ha; clear ha
    go_wp2_with fail
    go_ret
    exact ⟨rfl, by rw [decide_eq_false (fun hall => Ha.out (hall d (by rw [Hl.out]; exact hd)))]; first | rfl | (simp; omega)⟩

set_option maxRecDepth 20000 in
theorem fit_any (A : Option Addr) (n c : Nat) (rs : List (List UInt8)) (many : Int) (L : Nat) (w : World) (hg : Gr w A n c rs) :
    Calls Tryz.prog 48 #[.slice A n c, .int .i64 many, .int .i64 (L : Int)] w fun e w' => e = .returned (.bool (fitB rs many L)) ∧ Below w.heap.size w w' := by
  have hb0 : Below w.heap.size w (w.alloc (.cells #[.int .i64 (L : Int)] 3)) := (Below.refl _ _).alloc (Nat.le_refl _) _
  have hh := fcontains_any w.heap.size L A n c rs _ (hg.later hb0) (cell_of_one (heap_alloc_new w (.cells #[.int .i64 (L : Int)] 3)))
  have hl := hg.len
  have Hb0 := Lib.hid hb0; clear hb0
  by_cases hn : (n : Int) = many
  · have hz : ((n : Int) == many) = true := by simpa using hn
    have hd : fitB rs many L = decide (∀ i, i < rs.length → (rs.getD i []).length = L) := by rw [fitB, hl, decide_eq_true hn, Bool.true_and]
    rw [hd]
    obtain ⟨x, hx⟩ : ∃ x, x = decide (∀ i, i < rs.length → (rs.getD i []).length = L) := ⟨_, rfl⟩
    rw [← hx] at hh ⊢
    have Hn := Lib.hid hn
    clear hn hd hx hg hl
    go_enter Tryz.func48, Tryz.ntmps48
    go_wp2_with fail
    refine hh.mono ?_; clear hh; rintro e w' ⟨rfl, rfl⟩
    cases x
    · go_wp2_with fail
      go_ret
      exact ⟨rfl, Hb0.out⟩
    · go_wp2_with fail
      go_ret
      exact ⟨rfl, Hb0.out⟩
  · have hz : ((n : Int) == many) = false := by simpa using hn
    have hd : fitB rs many L = false := by rw [fitB, hl, decide_eq_false hn, Bool.false_and]
    rw [hd]
    have Hn := Lib.hid hn
    clear hn hd hg hl hh
    go_enter Tryz.func48, Tryz.ntmps48
    go_wp2_with fail
    go_ret
    exact ⟨rfl, Hb0.out⟩

set_option maxRecDepth 20000 in
theorem bequal_any (A : Option Addr) (n c : Nat) (a : List UInt8) (A2 : Option Addr) (n2 c2 : Nat) (b : List UInt8) (w : World) (h : Sl w 1 A n c (cells a)) (h2 : Sl w 1 A2 n2 c2 (cells b)) :
    Calls Tryz.prog 20 #[.slice A n c, .slice A2 n2 c2] w fun e w' => e = .returned (.bool (decide (a = b))) ∧ w' = w := by
  have k1 := str_of h
  have k2 := str_of h2
  clear h h2
  by_cases heq : a = b
  · have hz : ((bstr a).toList == (bstr b).toList) = true := by rw [bstr_toList, bstr_toList]; simpa using heq
    rw [decide_eq_true heq]
    have Hx := Lib.hid heq; clear heq
    go_enter Tryz.func20, Tryz.ntmps20
    go_wp2_with fail
    go_ret
    exact ⟨by first | rfl | rw [hz], rfl⟩
  · have hz : ((bstr a).toList == (bstr b).toList) = false := by rw [bstr_toList, bstr_toList]; simpa using heq
    rw [decide_eq_false heq]
    have Hx := Lib.hid heq; clear heq
    go_enter Tryz.func20, Tryz.ntmps20
    go_wp2_with fail
    go_ret
    exact ⟨by first | rfl | rw [hz], rfl⟩

set_option maxRecDepth 20000 in
set_option maxHeartbeats 800000 in
theorem scale1_any (F T : Nat) (c : UInt8) (A : Option Addr) (m cq : Nat) (r : List UInt8) (w : World) (h : Fld1 w F T) (hr : Sl w 1 A m cq (cells r)) (hm30 : m ≤ 1073741824) :
    Calls Tryz.prog 128 #[.pointer (some ⟨F, 0, none⟩), .int .u8 (c.toNat : Int), .slice A m cq] w (RetMine w.heap.size w (r.map (gm c))) := by
  have hrl := hr.len
  rw [cells_length, Nat.mul_one] at hrl
  have hmk := make_eq (m : Int) m rfl hm30
  have hlt := fun b o hn hA => hr.lt (b := b) (o := o) (by decide) hn hA
  have hT := h.fld.ltT
  have Hr := Lib.hid hr; clear hr
  have Hlt := Lib.hid hlt; clear hlt
  go_enter Tryz.func128, Tryz.ntmps128
  go_wp2_with fail
  refine (made1_any F T _ h).mono ?_; rintro e w1 ⟨rfl, k, hw1⟩
  have hb1 : Below w.heap.size w w1 := by rw [hw1]; exact below_drewN (Below.refl _ _) k
  have hsz : w1.heap.size = w.heap.size := by rw [hw1]; rfl
  have Hsz := Lib.hid hsz
  have H1 := Lib.hid (h.later hb1); clear h hw1
  have hs1 := hb1.size
  have Hq := Lib.hid (Hr.out.below hb1 (Nat.le_refl _))
  have Hb1 := Lib.hid hb1; clear hb1 hsz
  go_wp2_with fail
  have hb2 : Below w1.heap.size w1 (w1.alloc (.cells (madeCells #[.int .u8 0] m) 5)) := (Below.refl _ _).alloc (Nat.le_refl _) _
  refine (add_any T w1.heap.size m m (List.replicate m 0) A m cq r c _ (H1.out.later hb2).tabs w1.heap.size hb2.size (by simp) Hq.out.lim (Mine.noughts w1 m) (by omega) (Hq.out.below hb2 (Nat.le_refl _)) ?_).mono ?_
  · intro b o hn hA
    have := Hlt.out b o hn hA
    have := Hsz.out
    omega
  rintro e w2 ⟨rfl, hm2, hb3⟩
  rw [fld_noughts c r m hrl] at hm2
  have hb := hb2.trans hb3
  go_wp2_with fail
  go_ret
  exact ⟨_, _, _, rfl, hm2.sl (by rw [List.length_map, hrl]) (Nat.le_refl _) Hq.out.lim, Hb1.out.trans (hb.mono hs1), hm2.lower hs1⟩
end Go.Proofs.YtabcmjbcnmedhaaGreat

namespace Go.Proofs.YtabcmjbcnmedhaaGreat
open Go.RowKit Go.Proofs
set_option linter.unusedVariables false

/-- A change of data row j, and the parity that it goes to. -/
def turnV (C j : Nat) (Ac : Option Addr) (Lc cc : Nat) (Ap : Option Addr) (np cp : Nat) : Array Value := #[.pointer (some ⟨C, 0, none⟩), .int .i64 (j : Int), .slice Ac Lc cc, .slice Ap np cp]
section
variable {w0 w w' : World} {B C k m F T j : Nat} {Ac : Option Addr} {Lc cc : Nat} {ch : List UInt8} {Ap : Option Addr} {np cp : Nat} {par : List (List UInt8)}
end

end Go.Proofs.YtabcmjbcnmedhaaGreat

namespace Go.Proofs.YtabcmjbcnmedhaaGreat
open Go.RowKit Go.Proofs
set_option linter.unusedVariables false

/-- The first q rows of f, from one on. -/
def fromL (f : Nat → List UInt8) (fr q : Nat) : List (List UInt8) := (List.range q).map fun x => f (fr + x)
theorem fromL_next (f : Nat → List UInt8) (fr q : Nat) : fromL f fr q ++ [f (fr + q)] = fromL f fr (q + 1) := by simp [fromL, List.range_succ]

theorem spread_from (k j : Nat) (ch : List UInt8) (n : Nat) : fromL (fun i => ch.map (gm (facB k i j))) 0 n = spreadL k j ch n := List.map_congr_left fun i _ => by rw [Nat.zero_add]
theorem fld_one {a b : List UInt8} (h : a.length = b.length) : fld 1 a b = addL a b := by
  apply List.ext_getElem
  · rw [fld_length, addL_len]; omega
  · intro i h1 h2
    have h3 : i < b.length := by rw [fld_length] at h1; exact h1
    have e : gm 1 a[i] = a[i] := by rw [gm_comm, gm_one]
    simp [fld, addL, h3, h, UInt8.xor_comm, e]
theorem fld_add {c : UInt8} {a b : List UInt8} (h : a.length = b.length) : fld c a b = addL b (a.map (gm c)) := by
  apply List.ext_getElem
  · rw [fld_length, addL_len, List.length_map]; omega
  · intro i h1 h2
    have h3 : i < b.length := by rw [fld_length] at h1; exact h1
    simp [fld, addL, h3, h]

theorem upd_from (k j : Nat) (old now : List UInt8) (par : List (List UInt8)) (n : Nat) (hl : old.length = now.length) (hp : ∀ i, i < n → (par.getD i []).length = old.length) :
    fromL (fun i => fld (facB k i j) (addL old now) (par.getD (i - k) [])) k n = updL k j old now par n := List.map_congr_left fun i hi => by
  show fld (facB k (k + i) j) (addL old now) (par.getD (k + i - k) []) = _
  rw [show k + i - k = i from by omega]
  exact fld_add (by rw [addL_len, hp i (List.mem_range.1 hi)]; omega)
end Go.Proofs.YtabcmjbcnmedhaaGreat

namespace Go.Proofs.YtabcmjbcnmedhaaGreat
open Go.RowKit Go.Proofs
set_option linter.unusedVariables false

theorem Gr.cap {w : World} {A : Option Addr} {n c c' : Nat} {rs : List (List UInt8)} (h : Gr w A n c rs) (h1 : n ≤ c') (h2 : c' ≤ maxLen) : Gr w A n c' rs := by
  obtain ⟨vs, hs, hr⟩ := h.ex
  exact ⟨⟨vs, ⟨hs.len, h1, h2, hs.cell⟩, hr⟩, h.len⟩
theorem fit_even {rs : List (List UInt8)} {n N : Nat} (hl : rs.length = n) (h0 : 0 < n) : fitB rs (N : Int) (rs.getD 0 []).length = evenB rs (N : Int) := rfl
theorem even_zero {rs : List (List UInt8)} {k m : Int} (hl : rs.length = 0) (h : 1 ≤ k) (h2 : 1 ≤ m) : evenB rs (k + m) = false := by
  rw [evenB, decide_eq_false (by omega), Bool.false_and]

/-- What Off answers. -/
def RetOff (k m : Nat) (rs : List (List UInt8)) (w : World) (e : Ending) (w' : World) : Prop :=
  ((evenB rs ((k : Int) + (m : Int)) = false ∧ e = .returned (.tuple #[.slice none 0 0, .int .i64 2])) ∨
    (evenB rs ((k : Int) + (m : Int)) = true ∧ ∃ A' q c', e = .returned (.tuple #[.slice A' q c', .int .i64 0]) ∧ Sl w' 1 A' q c' (ncells (offL k rs m)))) ∧ Below w.heap.size w w'

set_option maxRecDepth 20000 in
set_option maxHeartbeats 3200000 in
theorem doff_any (C k m F T : Nat) (A : Option Addr) (n c : Nat) (rs : List (List UInt8)) (w : World) (h : Cod w C k m F T) (hg : Gr w A n c rs) (hW : ∀ r ∈ rs, r.length ≤ 1048576) :
    Calls Tryz.prog 32 #[.pointer (some ⟨C, 0, none⟩), .slice A n c] w (RetOff k m rs w) := by
  have hm := dmade_yes C k m F T w h
  have h1 := h.k1
  have h2 := h.m1
  have h3 := h.n255
  have hl := hg.len
  have hcap := hg.capLe
  by_cases h0 : n = 0
  · subst h0
    have hev := even_zero (rs := rs) (k := (k : Int)) (m := (m : Int)) hl (by omega) (by omega)
    have Hev := Lib.hid hev
    clear h hg hW hev hl hcap
    go_enter Tryz.func32, Tryz.ntmps32
    go_wp2_with fail
    refine hm.mono ?_; clear hm; rintro e w1 ⟨rfl, hw1⟩
    obtain rfl : w = w1 := hw1.symm
    go_wp2_with fail
    go_quiet (fail)
    go_wp2_with fail
    go_ret2
    exact ⟨.inl ⟨Hev.out, rfl⟩, below_drewN (Below.refl _ _) _⟩
  · have hn0 : 0 < n := by omega
    have hz : ((n : Int) == 0) = false := by simp; omega
    obtain ⟨b, o, rfl, hc⟩ := hg.at_ hn0
    obtain ⟨Ax, cx, hcx, hsx⟩ := hc 0 _ (hg.get hn0)
    obtain ⟨Lx, hLx⟩ : ∃ x, x = (rs.getD 0 []).length := ⟨_, rfl⟩
    have hfe := fit_even (N := k + m) hl hn0
    rw [← hLx] at hcx hfe
    have hcn := fun u hc => cn_any C k m F T u hc
    obtain ⟨N, hN⟩ : ∃ N, N = k + m := ⟨_, rfl⟩
    simp only [← hN] at hcn hfe
    rw [show ((N : Nat) : Int) = (k : Int) + (m : Int) from by omega] at hfe
    obtain ⟨x, hx⟩ : ∃ x, x = evenB rs ((k : Int) + (m : Int)) := ⟨_, rfl⟩
    have hfx : fitB rs (N : Int) Lx = x := by rw [hx, ← hfe]; congr 1; omega
    rw [Nat.add_zero] at hcx
    have Hcx := Lib.hid hcx
    have S0 := Lib.hid (h.later (Below.drew (Below.refl _ _)))
    have HG0 := Lib.hid (hg.later (Below.drew (Below.refl _ _)))
    have Hx := Lib.hid hfx
    have Hxe := Lib.hid hx
    have HN := Lib.hid hN
    have HW := Lib.hid hW
    have Hl := Lib.hid hl
    clear h hg hW hl hc hcx hsx hLx hfe hfx hx hN
    go_enter Tryz.func32, Tryz.ntmps32
    go_wp2_with fail
    refine hm.mono ?_; clear hm; rintro e w1 ⟨rfl, hw1⟩
    obtain rfl : w = w1 := hw1.symm
    go_upto_region 3 with (fail)
    refine wp_region_held_drew (S := fun w' => Fr (fun _ => False) w.drew w') (by kernel_rfl) (Fr.refl _ _) (fun hHeld => ?_)
    clear hHeld
    refine wpAnyH_take (i := 0) (oi := ⟨some 15, _, _, _, _, _⟩) (v := ?vg0) rfl (by kernel_rfl) (by kernel_rfl) (by kernel_rfl) (fun _ _ _ h => h) (Or.inl ⟨by rfl, ?yg0⟩) (Fr.refl _ _) ?rg0
    case yg0 =>
      intro wq hSw
      (try dsimp only at hSw)
      first | (go_simp; done) | (go_simp; with_reducible rfl)
    try simp only [Act.put, List.setIfInBounds_toArray, List.set_cons_zero, List.set_cons_succ]
    refine wpAnyH_take (i := 1) (oi := ⟨some 16, _, _, _, _, _⟩) (v := ?vg1) rfl (by kernel_rfl) (by kernel_rfl) (by kernel_rfl) (fun _ _ _ h => h) (Or.inl ⟨by rfl, ?yg1⟩) (Fr.refl _ _) ?rg1
    case yg1 =>
      intro wq hSw
      (try dsimp only at hSw)
      first | (go_simp; done) | (go_simp; with_reducible rfl)
    try simp only [Act.put, List.setIfInBounds_toArray, List.set_cons_zero, List.set_cons_succ]
    refine wpAnyH_take (i := 2) (oi := ⟨some 17, _, _, _, _, _⟩) (v := ?vg2) rfl (by kernel_rfl) (by kernel_rfl) (by kernel_rfl) (fun _ _ _ h => h) (Or.inl ⟨by rfl, ?yg2⟩) (Fr.refl _ _) ?rg2
    case yg2 =>
      intro wq hSw
      (try dsimp only at hSw)
      first | (go_simp; done) | (go_simp; with_reducible rfl)
    try simp only [Act.put, List.setIfInBounds_toArray, List.set_cons_zero, List.set_cons_succ]
    refine wpAnyH_take (i := 3) (oi := ⟨some 18, _, _, _, _, _⟩) (v := ?vg3) rfl (by kernel_rfl) (by kernel_rfl) (by kernel_rfl) (fun _ _ _ h => h) (Or.inl ⟨by rfl, ?yg3⟩) (Fr.refl _ _) ?rg3
    case yg3 =>
      intro wq hSw
      (try dsimp only at hSw)
      first | (go_simp; done) | (go_simp; with_reducible rfl)
    try simp only [Act.put, List.setIfInBounds_toArray, List.set_cons_zero, List.set_cons_succ]
    refine wpAnyH_take (i := 4) (oi := ⟨some 19, _, _, _, _, _⟩) (v := ?vg4) rfl (by kernel_rfl) (by kernel_rfl) (by kernel_rfl) (fun _ _ _ h => h) (Or.inl ⟨by rfl, ?yg4⟩) (Fr.refl _ _) ?rg4
    case yg4 =>
      intro wq hSw
      (try dsimp only at hSw)
      first | (go_simp; done) | (go_simp; with_reducible rfl)
    try simp only [Act.put, List.setIfInBounds_toArray, List.set_cons_zero, List.set_cons_succ]
    refine wpAnyH_take (i := 5) (oi := ⟨some 20, _, _, _, _, _⟩) (v := ?vg5) rfl (by kernel_rfl) (by kernel_rfl) (by kernel_rfl) (fun _ _ _ h => h) (Or.inl ⟨by rfl, ?yg5⟩) (Fr.refl _ _) ?rg5
    case yg5 =>
      intro wq hSw
      (try dsimp only at hSw)
      first | (go_simp; done) | (go_simp; with_reducible rfl)
    try simp only [Act.put, List.setIfInBounds_toArray, List.set_cons_zero, List.set_cons_succ]
    refine wpAnyH_take (i := 7) (oi := ⟨some 22, _, _, _, _, _⟩) (v := ?vg7) rfl (by kernel_rfl) (by kernel_rfl) (by kernel_rfl) (fun _ _ _ h => h) (Or.inl ⟨by rfl, ?yg7⟩) (Fr.refl _ _) ?rg7
    case yg7 =>
      intro wq hSw
      (try dsimp only at hSw)
      first | (go_simp; done) | (go_simp; with_reducible rfl)
    try simp only [Act.put, List.setIfInBounds_toArray, List.set_cons_zero, List.set_cons_succ]
    refine wpAnyH_take (i := 8) (oi := ⟨some 23, _, _, _, _, _⟩) (v := ?vg8) rfl (by kernel_rfl) (by kernel_rfl) (by kernel_rfl) (fun _ _ _ h => h) (Or.inl ⟨by rfl, ?yg8⟩) (Fr.refl _ _) ?rg8
    case yg8 =>
      intro wq hSw
      (try dsimp only at hSw)
      first | (go_simp; done) | (go_simp; with_reducible rfl)
    try simp only [Act.put, List.setIfInBounds_toArray, List.set_cons_zero, List.set_cons_succ]
    refine wpAnyH_take (i := 9) (oi := ⟨some 24, _, _, _, _, _⟩) (v := ?vg9) rfl (by kernel_rfl) (by kernel_rfl) (by kernel_rfl) (fun _ _ _ h => h) (Or.inl ⟨by rfl, ?yg9⟩) (Fr.refl _ _) ?rg9
    case yg9 =>
      intro wq hSw
      (try dsimp only at hSw)
      have q0 := hSw.cell_some Hcx.out (fun h => h)
      first | (go_simp; done) | (go_simp; with_reducible rfl)
    try simp only [Act.put, List.setIfInBounds_toArray, List.set_cons_zero, List.set_cons_succ]
    refine wpAnyH_take (i := 10) (oi := ⟨some 25, _, _, _, _, _⟩) (v := ?vg10) rfl (by kernel_rfl) (by kernel_rfl) (by kernel_rfl) (fun _ _ _ h => h) (Or.inl ⟨by rfl, ?yg10⟩) (Fr.refl _ _) ?rg10
    case yg10 =>
      intro wq hSw
      (try dsimp only at hSw)
      first | (go_simp; done) | (go_simp; with_reducible rfl)
    try simp only [Act.put, List.setIfInBounds_toArray, List.set_cons_zero, List.set_cons_succ]
    refine wpAnyH_ready (rs := [6]) (by kernel_rfl) (by simp) ?_
    refine AllReadyH.cons (o := ⟨some 21, _, _, _, _, _⟩) rfl (fun K hK => ?_) AllReadyH.nil
    go_simp
    refine (hcn w.drew S0.out).mono ?_; rintro e v1 ⟨rfl, hbN⟩
    have HG1 := Lib.hid (HG0.out.later hbN)
    have HC1 := Lib.hid (S0.out.later hbN)
    have Hcx1 := Lib.hid ((Fr.of_below hbN : Fr (fun _ => False) _ _).cell_some Hcx.out (fun h => h))
    have Hb1 := Lib.hid hbN
    have hfr : Fr (fun _ => False) w.drew v1 := Fr.of_below hbN
    clear hbN
    go_wp2_with fail
    refine hK.out _ _ hfr (fun hHeld => ?_)
    clear hK K hHeld
    try simp only [Act.put, List.setIfInBounds_toArray, List.set_cons_zero, List.set_cons_succ]
    refine wpAnyH_re (S' := fun w' => Fr (fun _ => False) v1 w') (fun w' h => hfr.trans h) ?_
    clear hfr
    refine wpAnyH_ready (rs := [11]) (by kernel_rfl) (by simp) ?_
    refine AllReadyH.cons (o := ⟨some 26, _, _, _, _, _⟩) rfl (fun K hK => ?_) AllReadyH.nil
    go_simp
    have hh := fit_any (some ⟨b, o, none⟩) n c rs (N : Int) Lx v1 HG1.out
    rw [Hx.out] at hh
    refine hh.mono ?_; clear hh; rintro e v2 ⟨rfl, hbN⟩
    have HG2 := Lib.hid (HG1.out.later hbN)
    have HC2 := Lib.hid (HC1.out.later hbN)
    have Hb2 := Lib.hid (Hb1.out.trans (hbN.mono Hb1.out.size))
    have hfr : Fr (fun _ => False) v1 v2 := Fr.of_below hbN
    clear hbN
    go_wp2_with fail
    refine hK.out _ _ hfr (fun hHeld => ?_)
    clear hK K hHeld
    try simp only [Act.put, List.setIfInBounds_toArray, List.set_cons_zero, List.set_cons_succ]
    refine wpAnyH_re (S' := fun w' => Fr (fun _ => False) v2 w') (fun w' h => hfr.trans h) ?_
    clear hfr
    refine wpAnyH_take (i := 12) (oi := ⟨some 27, _, _, _, _, _⟩) (v := ?vg12) rfl (by kernel_rfl) (by kernel_rfl) (by kernel_rfl) (fun _ _ _ h => h) (Or.inl ⟨by rfl, ?yg12⟩) (Fr.refl _ _) ?rg12
    case yg12 =>
      intro wq hSw
      (try dsimp only at hSw)
      first | (go_simp; done) | (go_simp; with_reducible rfl)
    try simp only [Act.put, List.setIfInBounds_toArray, List.set_cons_zero, List.set_cons_succ]
    refine wpAnyH_take (i := 13) (oi := ⟨some 28, _, _, _, _, _⟩) (v := ?vg13) rfl (by kernel_rfl) (by kernel_rfl) (by kernel_rfl) (fun _ _ _ h => h) (Or.inl ⟨by rfl, ?yg13⟩) (Fr.refl _ _) ?rg13
    case yg13 =>
      intro wq hSw
      (try dsimp only at hSw)
      first | (go_simp; done) | (go_simp; with_reducible rfl)
    try simp only [Act.put, List.setIfInBounds_toArray, List.set_cons_zero, List.set_cons_succ]
    refine wpAnyH_done (by kernel_rfl) ?_ _
    cases x
    · go_wp2_with fail
      go_ret2
      exact ⟨.inl ⟨Hxe.out.symm, rfl⟩, (Below.drew (Below.refl _ _)).trans Hb2.out⟩
    · have hev := Hxe.out.symm
      have hev2 : evenB rs ((k + m : Nat) : Int) = true := by rw [← hev]; simp
      obtain ⟨hl2, hlv⟩ := even_take (k := k) hev2 (by omega)
      have Hnk := Lib.hid (show n = k + m by have := Hl.out; omega)
      have Hlv := Lib.hid (show evenB (rs.take k) (k : Int) = true by rw [evenB, hlv, decide_eq_true (by rw [List.length_take]; omega)]; rfl)
      have Hev := Lib.hid hev
      clear hev hev2 hl2 hlv
      go_wp2_with fail
      refine (ck_any C k m F T _ HC2.out).mono ?_; rintro e v3 ⟨rfl, rfl⟩
      have hksl : (k : Int) ≤ (n : Int) ∧ (n : Int) ≤ (c : Int) := by have := Hnk.out; omega
      go_wp2_with fail
      have hgk : Gr v3 (some ⟨b, o, none⟩) k k (rs.take k) := (HG2.out.takeK (by have := Hnk.out; omega)).cap (Nat.le_refl _) (by unfold maxLen; have := Hnk.out; omega)
      have hh := encode_any C k m F T (some ⟨b, o, none⟩) k k (rs.take k) v3 HC2.out hgk (fun r hr => HW.out r (List.mem_of_mem_take hr))
      refine hh.mono ?_; clear hh hgk; rintro e w4 ⟨hb4, hR⟩
      rcases hR with ⟨hno, _⟩ | ⟨_, g, rfl, hpar⟩
      · rw [Hlv.out] at hno
        cases hno
      have Hpar := Lib.hid hpar
      have HG4 := Lib.hid (HG2.out.later hb4)
      have hsz4 := hb4.size
      have hszv := Hb2.out.size
      have Hb4 := Lib.hid (((Below.drew (Below.refl _ _)).trans Hb2.out).trans (hb4.mono hszv))
      clear hpar hb4 HC2
      go_wp2_with fail
      go_loopw [9, 42] (fun v i wr => ∃ (y q : Nat) (A' : Option Addr) (c' : Nat), y ≤ m ∧ q ≤ y ∧ i = .int .i64 (y : Int) ∧ v = .slice A' q c' ∧ Own wr w4.heap.size 3 1 A' q c' (ncells (offL k rs y)) ∧ Below w4.heap.size w4 wr) (fun _ i _ => m - (intOf i).toNat)
      case atStart => exact ⟨0, 0, none, 0, by omega, by omega, rfl, rfl, (Own.full (Sl.nil w4 1 0 (by decide)) : Own w4 w4.heap.size 3 1 none 0 0 []), Below.refl _ _⟩
      case round =>
        obtain ⟨y, q, A', c', hy, hq, rfl, rfl, hO, hb⟩ := hrel
        have HO := Lib.hid hO
        have Hb := Lib.hid hb
        have hszr := hb.size
        clear hO hb
        by_cases hlt : y < m
        · obtain ⟨g1, o1, e1, hc1⟩ := (Hpar.out.later Hb.out).at_ (by omega)
          injection e1 with e1; injection e1 with e1 e2; subst e1; subst e2
          obtain ⟨Ay, cy, hcy, hsy⟩ := hc1 y _ (parL_get k (rs.take k) m y hlt)
          obtain ⟨b2, o2, e1, hc2⟩ := (HG4.out.later Hb.out).at_ (by have := Hnk.out; omega)
          injection e1 with e1; injection e1 with e1 e2; subst e1; subst e2
          obtain ⟨Az, cz, hcz, hsz⟩ := hc2 (k + y) _ (HG4.out.get (by have := Hnk.out; omega))
          rw [Nat.zero_add] at hcy
          obtain ⟨sh, hsh⟩ : ∃ x, x = shard k (rs.take k) (k + y) := ⟨_, rfl⟩
          obtain ⟨rz, hrz⟩ : ∃ x, x = rs.getD (k + y) [] := ⟨_, rfl⟩
          rw [← hsh] at hcy hsy
          rw [← hrz] at hcz hsz
          have hnext := offL_next k rs y
          have heqv := bequal_any Ay sh.length cy sh Az rz.length cz rz wr hsy hsz
          have hoff : isOff k rs y = !decide (sh = rz) := by rw [isOff, hsh, hrz]
          have hix : (k : Int) + (y : Int) < (n : Int) := by have := Hnk.out; omega
          obtain ⟨z, hz⟩ : ∃ z, z = k + y := ⟨_, rfl⟩
          have hzi : (k : Int) + (y : Int) = (z : Int) := by omega
          rw [← hz] at hcz
          rw [hzi] at hix
          have hzn : z < n := by omega
          clear hc1 hc2 hsy hsz
          have Hsh := Lib.hid hsh
          have Hrz := Lib.hid hrz
          have Hz := Lib.hid hz
          clear hsh hrz hz
          by_cases heq : sh = rz
          · rw [decide_eq_true heq] at heqv hoff
            rw [hoff, if_neg (by decide)] at hnext
            have Hnext := Lib.hid hnext
            have Heq := Lib.hid heq
            clear hnext hoff heq
            go_wp2_with fail
            refine heqv.mono ?_; clear heqv; rintro e wq ⟨rfl, rfl⟩
            go_wp2_with fail
            go_roundw
            case rel => exact ⟨y + 1, q, A', c', by omega, by omega, by go_num, rfl, by rw [Hnext.out]; exact HO.out, Hb.out⟩
            case measure => simp [intOf]; omega
          · rw [decide_eq_false heq] at heqv hoff
            rw [hoff, if_pos (by decide)] at hnext
            have Hnext := Lib.hid hnext
            have Heq := Lib.hid heq
            clear hnext hoff heq
            go_wp2_with fail
            refine heqv.mono ?_; clear heqv; rintro e wq ⟨rfl, rfl⟩
            have hwin : w4.heap.size ≤ (wq.alloc (.cells #[.int .i64 (z : Int)] 3)).heap.size := by simp; omega
            go_wp2_with (at_builtin; refine wpList_append_i (B := w4.heap.size) rfl (.tmp 56) (.tmp 60) rfl rfl (HO.out.alloc _) hwin (some ⟨wq.heap.size, 0, none⟩) 1 1 [z] rfl (Sl.oneN _ _ _ _ rfl) ?pb ?pc)
            case pb => omega
            intro A3 c3 w5 ho5 hb5 _
            have e5 : ncells (offL k rs y) ++ ncells [z] = ncells (offL k rs (y + 1)) := by rw [← ncells_append, Hnext.out, ← Hz.out]
            rw [e5] at ho5
            have Ho5 := Lib.hid ho5
            have Hb5 := Lib.hid ((Hb.out.alloc hszr _).trans hb5)
            clear e5 ho5 hb5
            go_wp2_with fail
            go_roundw
            case rel => exact ⟨y + 1, q + 1, A3, c3, by omega, by omega, by go_num, rfl, Ho5.out, Hb5.out⟩
            case measure => simp [intOf]; omega
        · obtain rfl : y = m := by omega
          go_wp2_with fail
          go_ret2
          exact ⟨.inr ⟨Hev.out, A', q, c', rfl, HO.out.sl⟩, Hb4.out.trans (Hb.out.mono (by have : w.drew.heap.size = w.heap.size := rfl; omega))⟩

set_option maxRecDepth 20000 in
theorem doff_nil (v : Value) (w : World) :
    Calls Tryz.prog 32 #[.pointer none, v] w fun e w' => e = .returned (.tuple #[.slice none 0 0, .int .i64 1]) ∧ w' = w := by
  go_enter Tryz.func32, Tryz.ntmps32
  go_wp2_with fail
  refine (dmade_no _).mono ?_; rintro e w1 ⟨rfl, rfl⟩
  go_wp2_with fail
  go_ret2
  exact ⟨rfl, rfl⟩
set_option maxRecDepth 20000 in
theorem dholds_nil (v : Value) (w : World) :
    Calls Tryz.prog 18 #[.pointer none, v] w fun e w' => e = .returned (.bool false) ∧ w' = w := by
  go_enter Tryz.func18, Tryz.ntmps18
  go_wp2_with fail
  refine (doff_nil v _).mono ?_; rintro e w1 ⟨rfl, rfl⟩
  go_wp2_with fail
  go_ret
  exact ⟨rfl, rfl⟩
/-- Do rows belong together? -/
def holdsB (k m : Nat) (rs : List (List UInt8)) : Bool := evenB rs ((k : Int) + (m : Int)) && decide (offL k rs m = [])
set_option maxRecDepth 20000 in
theorem dholds_any (C k m F T : Nat) (A : Option Addr) (n c : Nat) (rs : List (List UInt8)) (w : World) (h : Cod w C k m F T) (hg : Gr w A n c rs) (hW : ∀ r ∈ rs, r.length ≤ 1048576) :
    Calls Tryz.prog 18 #[.pointer (some ⟨C, 0, none⟩), .slice A n c] w fun e w' => e = .returned (.bool (holdsB k m rs)) ∧ Below w.heap.size w w' := by
  have hh := doff_any C k m F T A n c rs w h hg hW
  clear h hg hW
  go_enter Tryz.func18, Tryz.ntmps18
  go_wp2_with fail
  refine hh.mono ?_; clear hh; rintro e w1 ⟨hR, hb⟩
  rcases hR with ⟨hev, rfl⟩ | ⟨hev, A', q, c', rfl, hs⟩
  · have Hev := Lib.hid hev; clear hev
    go_wp2_with fail
    go_ret
    exact ⟨by rw [holdsB, Hev.out]; rfl, hb⟩
  · have hq := hs.len
    rw [ncells_length, Nat.mul_one] at hq
    have Hev := Lib.hid hev
    clear hs hev
    by_cases h0 : q = 0
    · have hz : ((q : Int) == 0) = true := by simp [h0]
      have hnil : offL k rs m = [] := List.eq_nil_of_length_eq_zero (by omega)
      have H0 := Lib.hid h0
      have Hnil := Lib.hid hnil
      clear hnil h0 hq
      go_wp2_with fail
      go_ret
      exact ⟨by rw [holdsB, Hev.out, decide_eq_true Hnil.out]; first | rfl | simp [H0.out], hb⟩
    · have hz : ((q : Int) == 0) = false := by simp; omega
      have hnil : ¬ offL k rs m = [] := fun e => by rw [e] at hq; simp at hq; omega
      have H0 := Lib.hid h0
      have Hnil := Lib.hid hnil
      clear hnil h0 hq
      go_wp2_with fail
      go_ret
      exact ⟨by rw [holdsB, Hev.out, decide_eq_false Hnil.out]; first | rfl | (have := H0.out; simp; omega), hb⟩

set_option maxRecDepth 20000 in
set_option maxHeartbeats 800000 in
theorem rints_any (A : Option Addr) (n c : Nat) (l : List Nat) (A2 : Option Addr) (n2 c2 : Nat) (l2 : List Nat) (w : World) (h : Sl w 1 A n c (ncells l)) (h2 : Sl w 1 A2 n2 c2 (ncells l2)) :
    Calls Tryz.prog 9 #[.slice A n c, .slice A2 n2 c2] w fun e w' => e = .returned (.bool (decide (l = l2))) ∧ Below w.heap.size w w' := by
  have hl := h.len
  have hl2 := h2.len
  rw [ncells_length, Nat.mul_one] at hl hl2
  have hlim := h.lim
  unfold maxLen at hlim
  have H := Lib.hid h; clear h
  have H2 := Lib.hid h2; clear h2
  have Hl := Lib.hid hl
  have Hl2 := Lib.hid hl2
  by_cases hn : n = n2
  · subst hn
    clear hl hl2
    go_enter Tryz.func9, Tryz.ntmps9
    go_wp2_with fail
    go_loopw [5] (fun i wr => ∃ j : Nat, j ≤ n ∧ i = .int .i64 (j : Int) ∧ (∀ x, x < j → l.getD x 0 = l2.getD x 0) ∧ Below w.heap.size w wr) (fun i _ => n - (intOf i).toNat)
    case atStart => exact ⟨0, by omega, rfl, fun j hj => absurd hj (by omega), Below.refl _ _⟩
    case round =>
      obtain ⟨j, hj, rfl, hall, hb⟩ := hrel
      have Hall := Lib.hid hall; clear hall
      by_cases hlt : j < n
      · obtain ⟨b, o, rfl, hc⟩ := (H.out.below hb (Nat.le_refl _)).at_ hlt
        obtain ⟨b2, o2, rfl, hcc⟩ := (H2.out.below hb (Nat.le_refl _)).at_ hlt
        have hc1 := hc j _ (ncells_get l j (by rw [Hl.out]; exact hlt))
        have hc2 := hcc j _ (ncells_get l2 j (by rw [Hl2.out]; exact hlt))
        rw [show l[j]'(by rw [Hl.out]; exact hlt) = l.getD j 0 from by simp [show j < l.length by rw [Hl.out]; exact hlt]] at hc1
        rw [show l2[j]'(by rw [Hl2.out]; exact hlt) = l2.getD j 0 from by simp [show j < l2.length by rw [Hl2.out]; exact hlt]] at hc2
        obtain ⟨x1, hx1⟩ : ∃ x, x = l.getD j 0 := ⟨_, rfl⟩
        obtain ⟨x2, hx2⟩ : ∃ x, x = l2.getD j 0 := ⟨_, rfl⟩
        rw [← hx1] at hc1
        rw [← hx2] at hc2
        have Hx1 := Lib.hid hx1
        have Hx2 := Lib.hid hx2
        have hji : (j : Int) < (n : Int) := by omega
        clear hc hcc hx1 hx2
        by_cases heq : x1 = x2
        · have hz : ((x1 : Int) != (x2 : Int)) = false := by simp [heq]
          have Heq := Lib.hid heq; clear heq
          go_wp2_with fail
          go_quiet (fail)
          go_wp2_with fail
          go_roundw
          case rel => exact ⟨j + 1, by omega, by go_num, fun x hx => by
            by_cases hxj : x = j
            · subst hxj
              rw [← Hx1.out, ← Hx2.out, Heq.out]
            · exact Hall.out x (by omega), below_drewN hb nq⟩
          case measure => simp [intOf]; omega
        · have hz : ((x1 : Int) != (x2 : Int)) = true := by simp; omega
          have Heq := Lib.hid heq; clear heq
          go_wp2_with fail
          go_quiet (fail)
          go_wp2_with fail
          go_ret
          exact ⟨by rw [decide_eq_false (fun e => Heq.out (by rw [Hx1.out, Hx2.out, e]))]; rfl, below_drewN hb nq⟩
      · obtain rfl : j = n := by omega
        go_wp2_with fail
        go_ret
        have : l = l2 := List.ext_getElem (by rw [Hl.out, Hl2.out]) fun i p1 p2 => by
          have := Hall.out i (by rw [← Hl.out]; exact p1)
          simpa [p1, p2] using this
        exact ⟨by rw [decide_eq_true this]; rfl, hb⟩
  · have hz : ((n : Int) != (n2 : Int)) = true := by simp; omega
    have hne : l ≠ l2 := fun e => hn (by rw [← hl, ← hl2, e])
    have Hne := Lib.hid hne
    have Hn := Lib.hid hn
    clear hl hl2 hne hn
    go_enter Tryz.func9, Tryz.ntmps9
    go_wp2_with fail
    go_ret
    exact ⟨by rw [decide_eq_false Hne.out]; rfl, Below.refl _ _⟩
end Go.Proofs.YtabcmjbcnmedhaaGreat

namespace Go.Proofs.YtabcmjbcnmedhaaGreat
open Go.RowKit Go.Proofs
set_option linter.unusedVariables false

theorem Lev.rows_ok {k V : Nat} {ds : List (List UInt8)} (h : Lev k V ds) (hV : V ≤ 1048576) : ∀ r ∈ ds, r.length ≤ 1048576 := fun r hr => by
  obtain ⟨i, hi, rfl⟩ := List.mem_iff_getElem.1 hr
  have := h.wid i (by rw [← h.len]; exact hi)
  rw [List.getD_eq_getElem?_getD, List.getElem?_eq_getElem hi, Option.getD_some] at this
  omega
theorem Lev.ev {k V : Nat} {ds : List (List UInt8)} (h : Lev k V ds) : evenB ds (k : Int) = true := by rw [evenB, h.level, decide_eq_true (by rw [h.len])]; rfl
theorem Lev.allRows {k m V : Nat} {ds : List (List UInt8)} (h : Lev k V ds) (hk : 0 < k) : ∀ r ∈ ds ++ parL k ds m, r.length = V := fun r hr => by
  rcases List.mem_append.1 hr with h' | h'
  · obtain ⟨i, hi, rfl⟩ := List.mem_iff_getElem.1 h'
    have := h.wid i (by rw [← h.len]; exact hi)
    rwa [List.getD_eq_getElem?_getD, List.getElem?_eq_getElem hi] at this
  · obtain ⟨i, _, rfl⟩ := List.mem_map.1 h'
    exact h.shard_len hk _
theorem Lev.holds {k m V : Nat} {ds : List (List UInt8)} (h : Lev k V ds) (hk : 0 < k) : holdsB k m (ds ++ parL k ds m) = true := by
  have := even_of (rs := ds ++ parL k ds m) (k := k + m) (by rw [List.length_append, h.len, parL_length]) (h.allRows hk)
  rw [Int.natCast_add] at this
  rw [holdsB, this, holds_none h.len, decide_eq_true rfl]
  rfl
theorem cut_lev (l : List UInt8) (V k : Nat) : Lev k V (cutL l V k) := ⟨cutL_length _ _ _, fun i hi => by rw [cut_getD l V k i hi, cutR_length]⟩
end Go.Proofs.YtabcmjbcnmedhaaGreat

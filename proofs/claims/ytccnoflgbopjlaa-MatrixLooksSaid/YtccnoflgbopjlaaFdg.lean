/-
  Contracts of package field's rows: Scale, Fold, Dot. Condition: the field is one that New made ('Fld').
-/
import Derived.Test.YtccnoflgbopjlaaFdf
import Derived.Test.YtccnoflgbopjlaaLina
import Derived.Laws.CopyRow
import Derived.Laws.IdiomCopy
namespace Go.Proofs.Ytccnoflgbopjlaa
open Go.RowKit
set_option linter.unusedVariables false

/-- What a call answers that makes bytes of its own, where memory may turn at S, too. -/
def RetFr (S : Nat → Prop) (w : World) (l : List UInt8) (e : Ending) (w' : World) : Prop := ∃ A n c, e = .returned (.slice A n c) ∧ Sl w' 1 A n c (cells l) ∧ Fr S w w' ∧ Mine w' w.heap.size 5 A n (cells l)

/-- A slice whose cells lie elsewhere. -/
def Off (T : Nat) (A : Option Addr) (m : Nat) : Prop := ∀ b o, 0 < m → A = some ⟨b, o, none⟩ → b ≠ T
theorem Sl.lt {w : World} {size n c : Nat} {A : Option Addr} {xs : List Value} (h : Sl w size A n c xs) (hs : 0 < size) {b o : Nat} (hn : 0 < n) (hA : A = some ⟨b, o, none⟩) : b < w.heap.size := by
  have hx : 0 < xs.length := by rw [h.len]; exact Nat.mul_pos hn hs
  obtain ⟨b', o', e, hc⟩ := h.cell 0 xs[0] (List.getElem?_eq_getElem hx)
  rw [hA] at e
  injection e with e
  injection e with e _
  subst e
  exact World.block_lt_of_cell? w _ hc
theorem Sl.off {w w' : World} {T m c : Nat} {A : Option Addr} {xs : List Value} (h : Sl w 1 A m c xs) (hf : Fr (Ft T) w w') (ho : Off T A m) : Sl w' 1 A m c xs := h.fr hf fun b o hn hA hk => ho b o hn hA hk


theorem size_u8 : (Try.prog.info? 5).map (·.size) = some 1 := by kernel_rfl
/-- copy of as many bytes as there is room for. -/
theorem run_copy_all {w : World} {B n c cd : Nat} {g : Nat} {A : Option Addr} {l d : List UInt8} (h : Mine w B 5 (some ⟨g, 0, none⟩) n (cells d)) (hs : Sl w 1 A n c (cells l)) (ty : TypeId) :
    ∃ w', (Builtin.copy_ #[22, 22] ty #[.slice (some ⟨g, 0, none⟩) n cd, .slice A n c]).run Try.prog w = .ok (.int .i64 (n : Int)) w' ∧ Mine w' B 5 (some ⟨g, 0, none⟩) n (cells l) ∧ Fr (fun k => k = g) w w' := by
  have hl := hs.len
  rw [Nat.mul_one] at hl
  by_cases hn : n = 0
  · subst hn
    refine ⟨w, ?_, fun h0 => absurd h0 (by omega), Fr.refl _ _⟩
    exact run_copy_none w _ _ ty _ _ A 0 cd 0 c Try.underlying22 size_u8 (by simp)
  · obtain ⟨g', cur, hg', hB, hrow, hcur, ht⟩ := h (by omega)
    injection hg' with hg'
    injection hg' with hg' _
    subst hg'
    obtain ⟨b, o, rfl, hc⟩ := hs.at_ (k := 0) (by omega)
    have hmin : Nat.min n n = n := Nat.min_self n
    have hr := run_copy_row (P := Try.prog) w 22 22 ty 5 g 0 n cd ⟨b, o, none⟩ n c cur 5 (cells l) Try.underlying22 size_u8 hrow (by rw [hl, hmin]) (fun j v hv => by
      rw [show (⟨b, o, none⟩ : Addr).add j = ⟨b, o + j, none⟩ from by unfold Addr.add; split <;> simp_all]
      exact hc j v hv) (by rw [hl]; omega) (cells_one l)
    rw [hl] at hr
    refine ⟨_, hr, fun _ => ⟨g, _, rfl, hB, setRow_heap _ _ _ _ _ _ hrow, ?_, ?_⟩, ⟨rfl, rfl, rfl, by simp, fun k hk hne => setRow_other _ _ k _ hne⟩⟩
    · simp only [List.size_toArray, List.length_append, List.length_take, List.length_drop, Array.length_toList, hl]
      omega
    · simp only [List.take_zero, List.nil_append]
      rw [List.take_append_of_le_length (by rw [hl]; exact Nat.le_refl _), List.take_of_length_le (by rw [hl]; exact Nat.le_refl _)]

theorem Mine.noughts (w : World) (k : Nat) : Mine (w.alloc (.cells (madeCells #[.int .u8 0] k) 5)) w.heap.size 5 (some ⟨w.heap.size, 0, none⟩) k (cells (List.replicate k 0)) := by
  intro _
  have hl : (cells (List.replicate k 0)) = List.replicate k (Value.int .u8 0) := by rw [cells, List.map_replicate]; rfl
  refine ⟨w.heap.size, _, rfl, Nat.le_refl _, heap_alloc_new w _, by rw [size_madeCells]; exact Nat.le_refl _, ?_⟩
  rw [toList_madeCells_one, hl, List.take_of_length_le (by simp)]
theorem fld_noughts (c : UInt8) (r : List UInt8) (m : Nat) (h : r.length = m) : fld c r (List.replicate m 0) = r.map (gm c) := by
  apply List.ext_getElem
  · simp [fld, h]
  · intro i h1 h2
    have h3 : i < r.length := by simpa using h2
    simp [fld, h3]

set_option maxRecDepth 20000 in
set_option maxHeartbeats 800000 in
theorem scale_any (F T : Nat) (c : UInt8) (A : Option Addr) (m cq : Nat) (r : List UInt8) (w : World) (h : Fld w F T) (hr : Sl w 1 A m cq (cells r)) (ho : Off T A m) (hm30 : m ≤ 1073741824) :
    Calls Try.prog 61 #[.pointer (some ⟨F, 0, none⟩), .int .u8 (c.toNat : Int), .slice A m cq] w fun e w' => Fld1 w' F T ∧ RetFr (Ft T) w (r.map (gm c)) e w' := by
  have hrl := hr.len
  rw [cells_length, Nat.mul_one] at hrl
  have hmk := make_eq (m : Int) m rfl hm30
  have hlt := fun b o hn hA => hr.lt (b := b) (o := o) (by decide) hn hA
  have Hr := Lib.hid hr; clear hr
  have Hlt := Lib.hid hlt; clear hlt
  go_enter Try.func61, Try.ntmps61
  go_wp2_with fail
  refine (made_any F T _ h).mono ?_; rintro e w1 ⟨rfl, h1, hf1⟩
  have H1 := Lib.hid h1; clear h1
  have hT := h.ltT
  have hs1 := hf1.size
  have Hq := Lib.hid (show Sl w1 1 A m cq (cells r) from Hr.out.off hf1 ho)
  go_wp2_with fail
  have hb1 : Below w1.heap.size w1 (w1.alloc (.cells (madeCells #[.int .u8 0] m) 5)) := (Below.refl _ _).alloc (Nat.le_refl _) _
  refine (add_any T w1.heap.size m m (List.replicate m 0) A m cq r c _ (H1.out.later hb1).tabs w1.heap.size hb1.size (by simp) Hq.out.lim (Mine.noughts w1 m) (by omega) (Hq.out.below hb1 (Nat.le_refl _)) ?_).mono ?_
  · intro b o hn hA
    have := Hlt.out b o hn hA
    omega
  rintro e w2 ⟨rfl, hm2, hb2⟩
  rw [fld_noughts c r m hrl] at hm2
  have hb := hb1.trans hb2
  go_wp2_with fail
  go_ret
  exact ⟨H1.out.later hb, _, _, _, rfl, hm2.sl (by rw [List.length_map, hrl]) (Nat.le_refl _) Hq.out.lim, hf1.trans (Fr.of_below hb), hm2.lower hs1⟩

set_option maxRecDepth 20000 in
set_option maxHeartbeats 800000 in
theorem fold_any (F T : Nat) (c : UInt8) (A : Option Addr) (m cq : Nat) (r : List UInt8) (A2 : Option Addr) (n cp : Nat) (l : List UInt8) (w : World) (h : Fld w F T) (hr : Sl w 1 A m cq (cells r)) (ho : Off T A m) (hl : Sl w 1 A2 n cp (cells l)) (ho2 : Off T A2 n) (hn30 : n ≤ 1073741824) :
    Calls Try.prog 62 #[.pointer (some ⟨F, 0, none⟩), .int .u8 (c.toNat : Int), .slice A m cq, .slice A2 n cp] w fun e w' => Fld1 w' F T ∧ RetFr (Ft T) w (fld c r l) e w' := by
  have hll := hl.len
  rw [cells_length, Nat.mul_one] at hll
  have hmk := make_eq (n : Int) n rfl hn30
  have hlt := fun b o hn hA => hr.lt (b := b) (o := o) (by decide) hn hA
  have Hr := Lib.hid hr; clear hr
  have Hl := Lib.hid hl; clear hl
  have Hlt := Lib.hid hlt; clear hlt
  go_enter Try.func62, Try.ntmps62
  go_wp2_with fail
  refine (made_any F T _ h).mono ?_; rintro e w1 ⟨rfl, h1, hf1⟩
  have H1 := Lib.hid h1; clear h1
  have hT := h.ltT
  have hs1 := hf1.size
  have Hq := Lib.hid (show Sl w1 1 A m cq (cells r) from Hr.out.off hf1 ho)
  have Hq2 := Lib.hid (show Sl w1 1 A2 n cp (cells l) from Hl.out.off hf1 ho2)
  have hb1 : Below w1.heap.size w1 (w1.alloc (.cells (madeCells #[.int .u8 0] n) 5)) := (Below.refl _ _).alloc (Nat.le_refl _) _
  obtain ⟨w2, hcp, hm2, hf2⟩ := run_copy_all (cd := n) (Mine.noughts w1 n) (Hq2.out.below hb1 (Nat.le_refl _)) 3
  have hb2 : Below w1.heap.size w1 w2 := hb1.trans (hf2.below hb1.size (by rintro k rfl; exact Nat.le_refl _))
  have Hm2 := Lib.hid hm2; clear hm2
  clear hf2 hb1
  go_wp2_with fail
  clear hcp
  refine (add_any T w1.heap.size n n l A m cq r c _ (H1.out.later hb2).tabs w1.heap.size hb2.size hll Hq2.out.lim Hm2.out (by omega) (Hq.out.below hb2 (Nat.le_refl _)) ?_).mono ?_
  · intro b o hn hA
    have := Hlt.out b o hn hA
    omega
  rintro e w3 ⟨rfl, hm3, hb3⟩
  have hb := hb2.trans hb3
  go_wp2_with fail
  go_ret
  exact ⟨H1.out.later hb, _, _, _, rfl, hm3.sl (by rw [fld_length, hll]) (Nat.le_refl _) Hq2.out.lim, hf1.trans (Fr.of_below hb), hm3.lower hs1⟩

theorem ret_b {a b : UInt8} (h : a = b) : Ending.returned (.int .u8 (a.toNat : Int)) = .returned (.int .u8 (b.toNat : Int)) := by rw [h]
/-- The sum of the products, as far as both go. -/
def dotS (a b : List UInt8) : UInt8 := xs (min a.length b.length) fun i => gm (a.getD i 0) (b.getD i 0)

set_option maxRecDepth 20000 in
set_option maxHeartbeats 1600000 in
theorem dot_any (F T : Nat) (A : Option Addr) (n cp : Nat) (a : List UInt8) (A2 : Option Addr) (m cq : Nat) (b : List UInt8) (w : World) (h : Fld w F T) (ha : Sl w 1 A n cp (cells a)) (ho : Off T A n) (hb : Sl w 1 A2 m cq (cells b)) (ho2 : Off T A2 m) :
    Calls Try.prog 41 #[.pointer (some ⟨F, 0, none⟩), .slice A n cp, .slice A2 m cq] w (OnFld F T w (.int .u8 ((dotS a b).toNat : Int))) := by
  have hal := ha.len
  have hbl := hb.len
  rw [cells_length, Nat.mul_one] at hal hbl
  have hn := ha.lim
  have hm := hb.lim
  unfold maxLen at hn hm
  have Ha := Lib.hid ha; clear ha
  have Hb := Lib.hid hb; clear hb
  have Hal := Lib.hid hal; clear hal
  have Hbl := Lib.hid hbl; clear hbl
  rcases Nat.lt_or_ge m n with hq | hq
  all_goals
    go_enter Try.func41, Try.ntmps41
    go_wp2_with fail
    refine (made_any F T _ h).mono ?_; rintro e w1 ⟨rfl, h1, hf1⟩
    have H1 := Lib.hid h1; clear h1
    have Hqa := Lib.hid (show Sl w1 1 A n cp (cells a) from Ha.out.off hf1 ho)
    have Hqb := Lib.hid (show Sl w1 1 A2 m cq (cells b) from Hb.out.off hf1 ho2)
    go_wp2_with fail
    go_loopw [8, 19] (fun v i wr => ∃ (j : Nat) (y : UInt8), y = xs j (fun i => gm (a.getD i 0) (b.getD i 0)) ∧ j ≤ min n m ∧ i = .int .i64 (j : Int) ∧ v = .int .u8 (y.toNat : Int) ∧ ∃ k, wr = w1.drewN k) (fun _ i _ => min n m - (intOf i).toNat)
    case atStart => exact ⟨0, 0, rfl, by omega, rfl, rfl, 0, rfl⟩
    case round =>
      obtain ⟨j, y, hy, hj, rfl, rfl, hwr⟩ := hrel
      have hfw : Fld1 wr F T := by obtain ⟨k, rfl⟩ := hwr; exact H1.out.drewN k
      have hfr : Fr (Ft T) w wr := by obtain ⟨k, rfl⟩ := hwr; exact hf1.drewN k
      have hcw : ∀ p, wr.cell? p = w1.cell? p := by obtain ⟨k, rfl⟩ := hwr; exact fun p => rfl
      have Hfw := Lib.hid hfw; clear hfw
      have Hwr := Lib.hid hwr; clear hwr
      have Hcw := Lib.hid hcw; clear hcw
      have Hy := Lib.hid hy; clear hy
      by_cases hlt : j < min n m
      · have hja : j < a.length := by rw [Hal.out]; omega
        have hjb : j < b.length := by rw [Hbl.out]; omega
        have hjn : j < n := by omega
        have hjm : j < m := by omega
        obtain ⟨b1, o1, rfl, hc1⟩ := Hqa.out.at_ hjn
        obtain ⟨b2, o2, rfl, hc2⟩ := Hqb.out.at_ hjm
        have hcell1 := (Hcw.out _).trans (hc1 j _ (cells_get a j hja))
        have hcell2 := (Hcw.out _).trans (hc2 j _ (cells_get b j hjb))
        have Hc1 := Lib.hid hc1; clear hc1
        have Hc2 := Lib.hid hc2; clear hc2
        rw [bv] at hcell1 hcell2
        obtain ⟨u, hu⟩ : ∃ u, u = a[j] := ⟨_, rfl⟩
        obtain ⟨v, hv⟩ : ∃ v, v = b[j] := ⟨_, rfl⟩
        rw [← hu] at hcell1
        rw [← hv] at hcell2
        have Hu := Lib.hid hu; clear hu
        have Hv := Lib.hid hv; clear hv
        go_wp2_with fail
        go_quiet (first | (go_at_call 58; exact Calls.quiet_of (product_any T u v _ (Hfw.out.drewN _).tabs)))
        go_wp2_with fail
        go_roundw
        case rel =>
          refine ⟨j + 1, y ^^^ gm u v, ?_, by omega, by go_num, by rw [xor_b], ?_⟩
          · rw [xs, ← Hy.out, Hu.out, Hv.out]
            simp [List.getD_eq_getElem?_getD, hja, hjb]
          · obtain ⟨k, hk⟩ := Hwr.out
            exact ⟨k + nq, by rw [hk, World.drewN_drewN]⟩
        case measure => simp [intOf]; omega
      · obtain rfl : j = min n m := by omega
        go_wp2_with fail
        go_ret
        exact ⟨ret_b (by rw [Hy.out, dotS, Hal.out, Hbl.out]), Hfw.out, hfr⟩
end Go.Proofs.Ytccnoflgbopjlaa

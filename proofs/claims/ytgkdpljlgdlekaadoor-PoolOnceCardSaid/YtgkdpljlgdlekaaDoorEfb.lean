/-
  Integers in a block known whole: laid, cut out, moved; contracts of package bitmap's List (in new memory), of slices.IndexFunc and DeleteFunc over ints (whatever method is handed in), and of package pool's places. No condition but bounds.
-/
import Derived.Test.YtgkdpljlgdlekaaDoorMb
import Derived.Lib.SliceRun
namespace Go.Proofs.YtgkdpljlgdlekaaDoor
open Go.RowKit Go.Proofs
set_option linter.unusedVariables false

theorem ncells_icells (l : List Nat) : ncells l = icells (l.map fun (n : Nat) => (n : Int)) := by simp [ncells, icells]
theorem icells_append (l k : List Int) : icells (l ++ k) = icells l ++ icells k := by simp [icells]
theorem icells_one (l : List Int) : ∀ u ∈ icells l, u.oneCell' = true := by
  intro u hu
  obtain ⟨_, _, rfl⟩ := List.mem_map.1 hu
  rfl
theorem icells_at {l : List Int} {j : Nat} (h : j < l.length) : (icells l)[j]? = some (.int .i64 (l.getD j 0)) := by
  rw [icells_get l j h]
  simp [h]
theorem ncells_at {l : List Nat} {j : Nat} (h : j < l.length) : (ncells l)[j]? = some (.int .i64 ((l.getD j 0 : Nat) : Int)) := by
  rw [ncells_get l j h]
  simp [h]
/-- append of integers onto a block that is known whole, or onto no slice. -/
theorem wpList_append_ri {w : World} {n c : Nat} {A : Option Addr} {xs : List Int} {ops : Array Oper} {rest : List Oper} {o : Oper} {a : Act} {Q : Exit → Act → World → Prop} (hgd : o.guard = none) (s x : Operand)
    (ho : o.op = .call { callee := .builtin .append, args := #[s, x], argTypes := #[27, 27] })
    (hv : a.eval s = .slice A n c) (h : Rn w A 3 1 n c (icells xs))
    (A2 : Option Addr) (m c2 : Nat) (ys : List Int) (hx : a.eval x = .slice A2 m c2) (hs : Sl w 1 A2 m c2 (icells ys)) (h40 : n + m ≤ 17592186044416)
    (hk : ∀ A' c' w', Rn w' A' 3 1 (n + m) c' (icells (xs ++ ys)) → Fr (Bk A) w w' → (A' = A ∨ A' = some ⟨w.heap.size, 0, none⟩) → wpList Tryd.prog ops Q rest (a.put o.dst (.slice A' (n + m) c')) w') : wpList Tryd.prog ops Q (o :: rest) a w := by
  obtain ⟨i0, hi, hz0, hz1, hz2⟩ := info_parts info_i
  exact wpList_append_rn hgd s x _ _ ho i0 (.int .i64 0) 8 Tryd.underlying27 hi hz0 hz1 hz2 rfl (by decide) hv h _ m (icells ys) hx (hs.src Tryd.underlying27 (by decide) (icells_one ys)) (by unfold maxLen; omega) (by omega) (fun A' c' w' h2 h3 h4 => hk A' c' w' (by rw [icells_append]; exact h2) h3 h4)
/-- make([]int, z). -/
theorem makei14_eq (z : Int) (k : Nat) (hz : z = (k : Int)) (hk : k ≤ 1048576) (w : World) :
    (Instr.makeSlice 27 (.int .i64 z) (.int .i64 z)).run Tryd.prog w = .ok (.slice (some ⟨w.heap.size, 0, none⟩) k k) (w.alloc (.cells (madeCells #[.int .i64 0] k) 3)) := by
  obtain ⟨i0, hi, hz0, hz1, hz2⟩ := info_parts info_i
  subst hz
  have h := run_make (P := Tryd.prog) w 27 3 i0 (.int .i64 0) Tryd.underlying27 hi hz0 .i64 .i64 (k : Int) (k : Int) (by omega) (by omega) (by rw [hz2]; omega) (by omega)
  rw [hz1, Nat.mul_one, Int.toNat_natCast] at h
  exact h
theorem Rw.noughtsI (w : World) (k : Nat) (hk : k ≤ 1048576) : Rw (w.alloc (.cells (madeCells #[.int .i64 0] k) 3)) w.heap.size 3 1 k k (ncells (List.replicate k 0)) := by
  have h := Rw.new w (madeCells #[.int .i64 0] k) 3 1 k (by rw [size_madeCells, Nat.mul_one]) (by unfold maxLen; omega)
  rw [toList_madeCells_one] at h
  rwa [ncells, List.map_replicate]
/-- A number is laid at one place. -/
theorem Rw.turnN {w : World} {B q c u : Nat} {ws : List Nat} (h : Rw w B 3 1 q c (ncells ws)) (hu : u < q) (y : Nat) : Rw (w.setCell ⟨B, u, none⟩ (.int .i64 (y : Int))) B 3 1 q c (ncells (ws.set u y)) := by
  have := h.store (o := u) (vs := [.int .i64 (y : Int)]) (by simp; omega) (by intro v hv; rw [List.mem_singleton.1 hv]; rfl)
  have e : (ncells ws).take u ++ [Value.int .i64 (y : Int)] ++ (ncells ws).drop (u + 1) = ncells (ws.set u y) := by
    rw [ncells, ncells, List.map_set, List.set_eq_take_append_cons_drop, if_pos (by rw [List.length_map]; have := h.len; rw [ncells_length] at this; omega)]
    simp
  rw [← e]
  exact this

/-- The places of a pool whose first one is a, by number, in new memory. -/
def RetPlaces (a : Nat) (l : List Nat) (w : World) (e : Ending) (w' : World) : Prop := ∃ b, e = .returned (.slice (some ⟨b, 0, none⟩) l.length l.length) ∧ Rw w' b 3 1 l.length l.length (ncells (l.map (a + ·))) ∧ Below w.heap.size w w' ∧ w.heap.size ≤ b
set_option maxRecDepth 20000 in
set_option maxHeartbeats 1600000 in
theorem places_any (P a n c : Nat) (A : Option Addr) (l : List Nat) (w : World) (h : Sl w 1 A n c (ncells l)) (hn : l.length = n) (hP : w.cell? ⟨P, 2, none⟩ = some (.int .i64 (a : Int))) (hn2 : n ≤ 65536) (ha : a ≤ 600) (hl : ∀ x ∈ l, x < 65536) :
    Calls Tryd.prog 25 #[.pointer (some ⟨P, 0, none⟩), .slice A n c] w (RetPlaces a l w) := by
  have hmk := makei14_eq (n : Int) n rfl (by omega)
  have hP0 := World.block_lt_of_cell? w _ hP
  have H := Lib.hid h
  have HL := Lib.hid hl
  have HP := Lib.hid hP
  have HN := Lib.hid hn
  clear h hl hP hn
  go_enter Tryd.func25, Tryd.ntmps25
  go_wp2_with fail
  clear hmk
  go_loopw [13] (fun i wr => ∃ (j : Nat) (xs : List Nat), j ≤ n ∧ i = .int .i64 (j : Int) ∧ xs.length = n ∧ (∀ x, x < j → xs.getD x 0 = a + l.getD x 0) ∧ Rw wr w.heap.size 3 1 n n (ncells xs) ∧ Below w.heap.size w wr) (fun i _ => n - (intOf i).toNat)
  case atStart => exact ⟨0, _, by omega, rfl, by simp, fun x hx => absurd hx (by omega), Rw.noughtsI w n (by omega), (Below.refl _ _).alloc (Nat.le_refl _) _⟩
  case round =>
    obtain ⟨j, xs, hj, rfl, hxl, hall, hr, hb⟩ := hrel
    have Hall := Lib.hid hall
    have Hr := Lib.hid hr
    have Hxl := Lib.hid hxl
    by_cases hlt : j < n
    · have hji : (j : Int) < (n : Int) := by omega
      obtain ⟨b, o, rfl, hc⟩ := (H.out.below hb (Nat.le_refl _)).at_ hlt
      have hc1 := hc j _ (ncells_at (l := l) (by rw [HN.out]; exact hlt))
      have hx65 := HL.out (l.getD j 0) (by rw [List.getD_eq_getElem?_getD, List.getElem?_eq_getElem (by rw [HN.out]; exact hlt)]; exact List.getElem_mem _)
      obtain ⟨x, hx⟩ : ∃ x, x = l.getD j 0 := ⟨_, rfl⟩
      rw [← hx] at hc1 hx65
      have Hx := Lib.hid hx
      have hPc : wr.cell? ⟨P, 2, none⟩ = some (.int .i64 (a : Int)) := (hb.cell (p := ⟨P, 2, none⟩) hP0).trans HP.out
      have hcw : wr.cell? ⟨w.heap.size, j, none⟩ = some (.int .i64 ((xs.getD j 0 : Nat) : Int)) := hr.cell (ncells_at (by rw [hxl]; exact hlt))
      have hfz := hr.free j
      have Hb := Lib.hid hb
      clear hc hx hxl hall hr hb
      go_wp2_with fail
      go_roundw
      case rel =>
        have hwn : IntKind.i64.wrap ((a : Int) + (x : Int)) = ((a + x : Nat) : Int) := by rw [IntKind.wrap_i64]; omega
        refine ⟨j + 1, xs.set j (a + x), by omega, by go_num, by rw [List.length_set, Hxl.out], fun y hy => ?_, ?_, Hb.out.setCell (p := ⟨w.heap.size, j, none⟩) (Nat.le_refl _) _⟩
        · by_cases e : y = j
          · subst e
            rw [List.getD_eq_getElem?_getD, List.getElem?_set_self (by rw [Hxl.out]; omega), Hx.out]
            rfl
          · rw [List.getD_eq_getElem?_getD, List.getElem?_set_ne (by omega), ← List.getD_eq_getElem?_getD]
            exact Hall.out y (by omega)
        · first | exact Hr.out.turnN hlt (a + x) | (rw [show ((a : Int) + (x : Int)) = ((a + x : Nat) : Int) from by omega]; exact Hr.out.turnN hlt (a + x))
      case measure => simp [intOf]; omega
    · obtain rfl : j = n := by omega
      have Hb := Lib.hid hb
      clear hxl hall hr hb
      go_wp2_with fail
      go_ret
      have e : xs = l.map (a + ·) := List.ext_getElem (by rw [Hxl.out, List.length_map, HN.out]) fun i p1 p2 => by
        have := Hall.out i (by rw [← Hxl.out]; exact p1)
        rw [List.getD_eq_getElem?_getD, List.getD_eq_getElem?_getD, List.getElem?_eq_getElem p1, List.getElem?_eq_getElem (by simpa using p2)] at this
        simpa using this
      exact ⟨w.heap.size, by rw [HN.out]; rfl, by rw [HN.out, ← e]; exact Hr.out, Hb.out, Nat.le_refl _⟩

/-- Numbers in new memory, in a block that is known whole. -/
def RetRns (w : World) (k : List Nat) (e : Ending) (w' : World) : Prop := ∃ A c, e = .returned (.slice A k.length c) ∧ Rn w' A 3 1 k.length c (ncells k) ∧ Below w.heap.size w w' ∧ ∀ b, Bk A b → w.heap.size ≤ b
/-- A place that was found, laid behind the others. -/
def RetOne (B : Nat) (w : World) (k : List Nat) (p : Nat) (e : Ending) (w' : World) : Prop := ∃ A' c', e = .returned (.tuple #[.slice A' (k.length + 1) c', .bool false]) ∧ Rn w' A' 3 1 (k.length + 1) c' (ncells (k ++ [p])) ∧ Below B w w' ∧ ∀ b, Bk A' b → B ≤ b
set_option maxRecDepth 20000 in
set_option maxHeartbeats 1600000 in
theorem list14_one (B : Nat) (A : Option Addr) (c p : Nat) (k : List Nat) (w : World) (h : Rn w A 3 1 k.length c (ncells k)) (hB : B ≤ w.heap.size) (hA : ∀ b, Bk A b → B ≤ b) (hk : k.length ≤ 65536) :
    Calls Tryd.prog 44 #[.slice A k.length c, .int .i64 (p : Int)] w (RetOne B w k p) := by
  have hb0 : Below w.heap.size w (w.alloc (.cells #[.int .i64 (p : Int)] 3)) := (Below.refl _ _).alloc (Nat.le_refl _) _
  have ho := h.later hb0
  rw [ncells_icells] at ho
  have Hb0 := Lib.hid (hb0.mono hB)
  have HA := Lib.hid hA
  unfold RetOne
  obtain ⟨q, hq⟩ : ∃ q, q = k.length := ⟨_, rfl⟩
  rw [← hq] at ho hk ⊢
  have Ho := Lib.hid ho
  have HB := Lib.hid hB
  clear h ho hb0 hq hA hB
  go_enter Tryd.func44, Tryd.ntmps44
  go_wp2_with (at_builtin; refine wpList_append_ri rfl (.tmp 6) (.tmp 8) rfl rfl Ho.out (some ⟨w.heap.size, 0, none⟩) 1 1 [(p : Int)] rfl (Sl.made w #[.int .i64 (p : Int)] 3 1 1 rfl (by decide)) ?pb ?pc)
  case pb => omega
  intro A3 c3 w4 ho4 hf4 he4
  have hb4 : Below B (w.alloc (.cells #[.int .i64 (p : Int)] 3)) w4 := hf4.below (by simp; have := HB.out; omega) (fun b hb => HA.out b hb)
  have hl4 : ∀ b, Bk A3 b → B ≤ b := by
    rintro b ⟨o, e⟩
    rcases he4 with he4 | he4
    · exact HA.out b ⟨o, he4 ▸ e⟩
    · rw [he4] at e
      injection e with e
      injection e with e _
      have := HB.out
      have hs : w.heap.size ≤ (w.alloc (.cells #[.int .i64 (p : Int)] 3)).heap.size := by simp
      omega
  have H4 := Lib.hid ho4
  have Hb4 := Lib.hid hb4
  have HL4 := Lib.hid hl4
  clear ho4 hb4 hf4 he4 hl4
  go_wp2_with fail
  go_ret2
  exact ⟨A3, c3, rfl, by rw [ncells_append, ncells_icells, ncells_icells, ← icells_append]; exact H4.out, Hb0.out.trans Hb4.out, HL4.out⟩

set_option maxRecDepth 20000 in
set_option maxHeartbeats 1600000 in
theorem search14_any (v : Value) (n : Nat) (f : Nat → Bool) (t : Bool) (w : World) (h : Mp w v n f) (hN : Tz w) :
    Calls Tryd.prog 41 #[v, .int .i64 0, .bool t, .slice none 0 0, .func (.func 44) #[] #[]] w (RetRns w (plc n 0 f t)) := by
  have eg := enters_of Tryd.func44 (by kernel_rfl) rfl
  have htop := h.top
  have hnx := fun a ha W hW => next_any v n f a t W (h.keep hW) (hN.keep hW) ha
  have hwi := fun i W hW => mwithin_any v n f i W (h.keep hW)
  have Hn := Lib.hid hnx; clear hnx
  have Hi := Lib.hid hwi; clear hwi
  have H := Lib.hid h; clear h
  clear hN
  have hzm : ¬ (0 : Int) < 0 := by omega
  go_enter Tryd.func41, Tryd.ntmps41
  go_wp2_with fail
  refine (Hn.out 0 (by decide) _ (Below.refl _ _)).mono ?_
  rintro e w1 ⟨r0, rfl, hq0, hw1⟩
  obtain rfl : w = w1 := hw1.symm
  have Q0 := Lib.hid hq0; clear hq0
  go_wp2_with fail
  go_loopw [3, 11, 12, 13] (fun x i _ _ wr => ∃ (a r : Nat) (k : List Nat) (A : Option Addr) (c : Nat), x = .slice A k.length c ∧ i = .int .i64 (r : Int) ∧ k.length ≤ a ∧ a < 9223372036854775808 ∧ Nq n f a t r ∧ Below w.heap.size w wr ∧ Rn wr A 3 1 k.length c (ncells k) ∧ (∀ b, Bk A b → w.heap.size ≤ b) ∧ plc n 0 f t = k ++ plc n a f t) (fun _ i _ _ _ => n - (intOf i).toNat)
  case atStart => exact ⟨0, r0, [], none, 0, rfl, rfl, Nat.zero_le _, by omega, Q0.out, Below.refl _ _, .inl ⟨rfl, rfl, rfl, rfl⟩, fun b hb => (by obtain ⟨o, e⟩ := hb; cases e), rfl⟩
  case round =>
    obtain ⟨a, r, k, A, c, rfl, rfl, hka, hal2, hq, hbw, hown, hlo, he⟩ := hrel
    have Q := Lib.hid hq
    have He := Lib.hid he
    have Hbw := Lib.hid hbw
    have Hown := Lib.hid hown
    have Hlo := Lib.hid hlo
    have hrl : (r : Int) < 9223372036854775808 := by have := hq.top; omega
    have hi := Hi.out (r : Int) _ hbw
    clear he hq hbw hown hlo
    by_cases hlt : r < n
    · rw [show inB n (r : Int) = true by simp [inB]; omega] at hi
      have hkr : k.length ≤ r := by have := Q.out.nx.le; omega
      have hcall := list14_one w.heap.size A c r k wr Hown.out Hbw.out.size Hlo.out (by omega)
      unfold RetOne at hcall
      have hcons := Q.out.nx.cons hlt
      have He2 := Lib.hid (He.out.trans (by rw [hcons, ← List.singleton_append, ← List.append_assoc]))
      obtain ⟨q, hqk⟩ : ∃ q, q = k.length := ⟨_, rfl⟩
      rw [← hqk] at hcall hkr
      rw [← hqk]
      have Hqk := Lib.hid hqk
      clear hcons hka hqk
      go_wp2_with fail
      refine hi.mono ?_; clear hi; rintro e w2 ⟨rfl, hw2⟩
      obtain rfl : wr = w2 := hw2.symm
      go_wp2_with fail
      refine hcall.mono ?_; clear hcall; rintro e w3 ⟨A3, c3, rfl, ho3, hb3, hl3⟩
      have hbw3 := Hbw.out.trans hb3
      have hnext := Hn.out (r + 1) (by omega) w3 hbw3
      have Ho3 := Lib.hid ho3
      have Hl3 := Lib.hid hl3
      have Hb3 := Lib.hid hbw3
      clear ho3 hb3 hbw3 hl3
      go_wp2_with fail
      refine hnext.mono ?_; clear hnext; rintro e w4 ⟨r4, rfl, hq4, hw4⟩
      obtain rfl : w3 = w4 := hw4.symm
      have hle4 := hq4.nx.le
      have Q4 := Lib.hid hq4; clear hq4
      go_wp2_with fail
      go_roundw
      case rel => exact ⟨r + 1, r4, k ++ [r], A3, c3, by rw [List.length_append, List.length_singleton, ← Hqk.out], rfl, by rw [List.length_append, List.length_singleton, ← Hqk.out]; omega, by omega, Q4.out, Hb3.out, by rw [List.length_append, List.length_singleton, ← Hqk.out]; exact Ho3.out, Hl3.out, He2.out⟩
      case measure => simp [intOf]; omega
    · rw [show inB n (r : Int) = false by simp [inB]; omega] at hi
      have hnil := Q.out.nx.nil (by omega)
      have He2 := Lib.hid (He.out.trans (by rw [hnil, List.append_nil]))
      go_wp2_with fail
      refine hi.mono ?_; clear hi; rintro e w2 ⟨rfl, hw2⟩
      obtain rfl : wr = w2 := hw2.symm
      go_wp2_with fail
      go_ret
      have hres := He2.out
      exact ⟨A, c, by rw [hres]; rfl, by rw [hres]; exact Hown.out, Hbw.out, Hlo.out⟩
set_option maxRecDepth 20000 in
theorem list14_any (v : Value) (n : Nat) (f : Nat → Bool) (w : World) (h : Mp w v n f) (hN : Tz w) :
    Calls Tryd.prog 33 #[v] w (RetRns w (plc n 0 f true)) := by
  have hh := search14_any v n f true w h hN
  obtain ⟨y, hy⟩ : ∃ y, y = plc n 0 f true := ⟨_, rfl⟩
  rw [← hy] at hh ⊢
  clear h hN hy
  go_enter Tryd.func33, Tryd.ntmps33
  go_wp2_with fail
  refine hh.mono ?_; rintro e w1 ⟨A, c, rfl, ho, hb, hl⟩
  have Ho := Lib.hid ho
  have Hb := Lib.hid hb
  have Hl := Lib.hid hl
  clear ho hb hl
  go_wp2_with fail
  go_ret
  exact ⟨A, c, rfl, Ho.out, Hb.out, Hl.out⟩
end Go.Proofs.YtgkdpljlgdlekaaDoor

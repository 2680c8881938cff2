/-
  What the statements of layer 11 ask at any rate: the page's examples, and a shard. Condition: the table reads as the row lists it ('Nt').
-/
import Derived.Test.YtdhbgfnfbeapcaaDoorEam
namespace Go.Proofs.YtdhbgfnfbeapcaaDoor
open Go.RowKit Go.Proofs
set_option linter.unusedVariables false

/-- The shard that the statements put. -/
def shL : Sh := ⟨3, 1, 258, 2097157, 9, Sh.zero.body⟩
theorem shL_ok : shL.Ok := ⟨by decide, by decide, by decide, rfl⟩
theorem shL_kn : shL.kn = true := by decide
theorem shL_cs : (((((Sh.zero.cs.set 0 (.int .u8 3)).set 1 (.int .u8 1)).set 2 (.int .u16 258)).set 3 (.int .u64 2097157)).set 4 (.int .u16 9)) = shL.cs := by
  simp only [Sh.cs, Sh.zero, shL, List.set_cons_zero, List.set_cons_succ]
  rfl
theorem shL_four : shL.sector.take 4 = [3, 1, 2, 1] := by
  have h : shL.sector = [3, 1] ++ (le 2 258 ++ (le 8 2097157 ++ le 2 9 ++ [0, 0] ++ Sh.zero.body ++ le 4 (sumOf shL.head))) := by
    simp [Sh.sector, closed, Sh.head, shL, List.append_assoc]
  rw [h]
  rfl
theorem noughts_sum : getE (List.replicate 64 0) = 4 := by
  refine getE_sum (by simp) ?_
  have e1 : leVal (((List.replicate 64 (0 : UInt8)).drop 60).take 4) = 0 := by decide
  have e2 : sumOf ((List.replicate 64 (0 : UInt8)).take 60) ≠ 0 := by
    show (more 0 _).toNat ≠ 0
    decide +kernel
  rw [e1]
  exact e2.symm
theorem sput_at (v : Value) (s : Sh) (hv : v = .agg s.cs.toArray) (hs : s.Ok) (hk : s.kn = true) (w : World) (hN : Nt w) : Calls Tryd.prog 8 #[v] w fun e w' => ∃ A, e = .returned (.tuple #[.slice A 64 64, .int .i64 0]) ∧ Sl w' 1 A 64 64 (cells s.sector) ∧ Mine w' w.heap.size 5 A 64 (cells s.sector) ∧ Below w.heap.size w w' := by
  subst hv
  exact sput_yes s hs hk w hN
set_option maxRecDepth 20000
set_option maxHeartbeats 1600000
/-- A shard is stored into a variable that has just been made. -/
theorem wpList_store_shard {ops : Array Oper} {rest : List Oper} {o : Oper} {a : Act} {Q : Exit → Act → World → Prop} (hgd : o.guard = none) (x y : Operand) (ho : o.op = .store 26 x y) (w0 : World) (s : Sh)
    (hx : a.eval x = .pointer (some ⟨w0.heap.size, 0, none⟩)) (hy : a.eval y = .agg s.cs.toArray) (h : wpList Tryd.prog ops Q rest (a.put o.dst undef) (w0.alloc (.cells s.cs.toArray 26))) : wpList Tryd.prog ops Q (o :: rest) a (w0.alloc (.cells (Sh.cs Sh.zero).toArray 26)) :=
  wpList_store_new hgd _ x y ho w0 _ _ _ hx hy (size_shard_a s) (by rw [List.size_toArray, List.size_toArray, Sh.cs_len, Sh.cs_len]) (all_oneCell_toArray s.cs_one) h
theorem lies_any (w : World) (hN : Nt w) : Calls Tryd.prog 7 #[] w (SaysTrue w) := by
  have hzv := zero_shard
  have hmk := make_eq 64 64 rfl (by decide) w
  have HN := Lib.hid hN
  clear hN
  obtain ⟨w1, hw1⟩ : ∃ w1, w1 = w.alloc (.cells (madeCells #[.int .u8 0] 64) 5) := ⟨_, rfl⟩
  have hb1 : Below w.heap.size w w1 := by rw [hw1]; exact (Below.refl _ _).alloc (Nat.le_refl _) _
  have hs1 : Sl w1 1 (some ⟨w.heap.size, 0, none⟩) 64 64 (cells (List.replicate 64 0)) := by rw [hw1]; exact Sl.noughts w 64 (by decide)
  have hg := sget_any (some ⟨w.heap.size, 0, none⟩) 64 64 _ w1 hs1 (HN.out.keep hb1)
  rw [getS_err (by rw [noughts_sum]; decide), noughts_sum] at hg
  have B1 := Lib.hid hb1
  have Hw1 := Lib.hid hw1
  clear hb1 hs1 hw1
  go_enter Tryd.func7, Tryd.ntmps7
  go_wp2_with fail
  refine (gen_any 2 5 (by decide) (by decide) (by decide) w).mono ?_; rintro e w' ⟨rfl, hw'⟩
  obtain rfl : w = w' := hw'
  rw [show genN 2 5 = 2097157 from rfl, show genE 2 5 = 0 from rfl]
  go_wp2_with (rw [← Hw1.out])
  refine hg.mono ?_; clear hg; rintro e w2 ⟨rfl, hb⟩
  have B2 := Lib.hid (B1.out.trans (hb.mono B1.out.size))
  obtain ⟨w3, hw3⟩ : ∃ w3, w3 = w2.alloc (.cells (Sh.cs Sh.zero).toArray 26) := ⟨_, rfl⟩
  have B3 := Lib.hid (show Below w.heap.size w w3 by rw [hw3]; exact B2.out.alloc B2.out.size _)
  have Hw3 := Lib.hid hw3
  clear hb hw3 hmk
  go_wp2_with (refine at_none11 ?_; refine wpList_store_shard (o := ⟨none, _, _, _, _, _⟩) rfl (.tmp 3) (.tmp 16) rfl w2 Sh.zero rfl rfl ?_; rw [← Hw3.out])
  refine (sput_at _ shL (congrArg (fun l => Value.agg (List.toArray l)) shL_cs) shL_ok shL_kn w3 (HN.out.keep B3.out)).mono ?_
  rintro e w4 ⟨A4, rfl, hs4, hm4, hb⟩
  have hg := sget_any A4 64 64 _ w4 hs4 (HN.out.keep (B3.out.trans (hb.mono B3.out.size)))
  have hgs := shL_ok.get_sector shL_kn
  rw [hgs.1, hgs.2] at hg
  have B4 := Lib.hid (B3.out.trans (hb.mono B3.out.size))
  have S4 := Lib.hid hs4
  clear hs4 hm4 hb hgs
  go_wp2_with fail
  refine hg.mono ?_; clear hg; rintro e w5 ⟨rfl, hb⟩
  obtain ⟨w6, hw6⟩ : ∃ w6, w6 = w5.alloc (.cells (Sh.cs shL).toArray 26) := ⟨_, rfl⟩
  have hb6 : Below w5.heap.size w5 w6 := by rw [hw6]; exact (Below.refl _ _).alloc (Nat.le_refl _) _
  have hx6 : ShB w6 w5.heap.size shL := by rw [hw6]; exact ShB.new w5 shL
  have B6 := Lib.hid (B4.out.trans ((hb.mono B4.out.size).trans (hb6.mono (Nat.le_trans B4.out.size hb.size))))
  have hs6 := (S4.out.below hb (Nat.le_refl _)).below hb6 (Nat.le_refl _)
  have hs6' := hs6.sub1 0 4 64 (by decide) (by decide) (by decide) (by decide)
  rw [List.drop_zero, show A4.map (·.add 0) = A4 by cases A4 <;> simp [Addr.add], show (shL.sector.take (4 - 0)) = [3, 1, 2, 1] from shL_four] at hs6'
  have k6 := str_of hs6'
  have hz6 : (bstr [3, 1, 2, 1]).toList = [3, 1, 2, 1] := bstr_toList _
  have cp : w6.cell? ⟨w5.heap.size, 2, none⟩ = some (.int .u16 258) := hx6.p
  have cg : w6.cell? ⟨w5.heap.size, 3, none⟩ = some (.int .u64 2097157) := hx6.g
  have cz : w6.cell? ⟨w5.heap.size, 4, none⟩ = some (.int .u16 9) := hx6.z
  have he := epoch_any 2097157 (by decide) w6
  rw [show (2097157 / 1048576 : Nat) = 2 from rfl] at he
  have Hw6 := Lib.hid hw6
  clear hb hw6 hb6 hx6 hs6 hs6'
  go_wp2_with (refine at_none11 ?_; refine wpList_store_shard (o := ⟨none, _, _, _, _, _⟩) rfl (.tmp 7) (.tmp 27) rfl w5 shL rfl rfl ?_; rw [← Hw6.out])
  refine he.mono ?_; clear he; rintro e w' ⟨rfl, hw'⟩
  obtain rfl : w6 = w' := hw'
  go_wp2_with fail
  go_ret
  exact ⟨rfl, B6.out⟩
end Go.Proofs.YtdhbgfnfbeapcaaDoor

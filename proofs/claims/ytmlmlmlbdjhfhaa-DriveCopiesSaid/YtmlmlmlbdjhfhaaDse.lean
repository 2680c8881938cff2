/-
  The document's drive (layer 9): the contract of its Stored. No condition but bounds.
-/
import Derived.Test.YtmlmlmlbdjhfhaaDsd
import Derived.Test.YtmlmlmlbdjhfhaaDrm
namespace Go.Proofs.Ytmlmlmlbdjhfhaa
open Go.RowKit Go.Proofs
set_option linter.unusedVariables false

theorem Rw.bytes_at {w : World} {g n c : Nat} {l : List UInt8} (h : Rw w g 5 1 n c (cells l)) {j : Nat} (hj : j < n) : w.cell? ⟨g, j, none⟩ = some (.int .u8 ((l.getD j 0).toNat : Int)) := by
  have hl := h.len
  rw [cells_length] at hl
  refine h.cell ?_
  rw [cells_get _ _ (by omega), bv, List.getD_eq_getElem?_getD, List.getElem?_eq_getElem (by omega)]
  rfl
theorem Rw.bytes_set {w : World} {g n c : Nat} {l : List UInt8} (h : Rw w g 5 1 n c (cells l)) (j : Nat) (u : UInt8) : Rw (w.setCell ⟨g, j, none⟩ (.int .u8 (u.toNat : Int))) g 5 1 n c (cells (l.set j u)) := by
  have := h.put1 j (.int .u8 (u.toNat : Int))
  have e : (cells l).set j (.int .u8 (u.toNat : Int)) = cells (l.set j u) := by simp [cells, bv, List.map_set]
  rwa [e] at this
theorem noughts9 (w : World) : Rw (w.alloc (.cells (madeCells #[.int .u8 0] 64) 5)) w.heap.size 5 1 64 64 (cells (full 0)) := by
  have := Rw.new w (madeCells #[.int .u8 0] 64) 5 1 64 (by rw [size_madeCells]) (by decide)
  rw [toList_madeCells_one] at this
  exact this
theorem Rn.bytes {w : World} {A : Option Addr} {c : Nat} {l : List UInt8} (h : Rn w A 5 1 l.length c (cells l)) : Sl w 1 A l.length c (cells l) := h.sl
section
variable {w w' : World} {S T : Nat → Prop} {X k : Nat} {x y : Dv} {AL AW : Option Addr} {cL cW : Nat} {ls ws : List Em}
theorem loadE9 {w : World} {b o : Nat} {m : Em} (h : w.rangeAt b o (emc m)) : w.rangeAt b o [.int .i64 (m.ev.at_ : Int), .slice m.A m.ev.b.length m.c, .int .i64 (m.ev.off : Int), .int .u32 (m.ev.mask : Int)] := h
theorem sizeE9 (v0 v1 v2 v3 : Value) : (Try.prog.info? 83).map (·.size) = some [v0, v1, v2, v3].length := by kernel_rfl
set_option maxRecDepth 100000
set_option maxHeartbeats 4000000
/-- What the document's Stored answers. -/
def RetB9 (w : World) (l : List UInt8) (e : Ending) (w' : World) : Prop := ∃ A n c, e = .returned (.slice A n c) ∧ Sl w' 1 A n c (cells l) ∧ Below w.heap.size w w'
theorem rfstored_any (z : Int) (h1 : -9223372036854775808 ≤ z) (h2 : z < 9223372036854775808) (hk : k ≤ 100000) (h : Rg w S X k x AL cL ls AW cW ws) : Calls Try.prog 43 #[.pointer (some ⟨X, 0, none⟩), .int .i64 z] w (RetB9 w (x.storedL z)) := by
  have c3 := h.c3
  have hhas := rfhas_any z h1 h2 h
  by_cases hx : x.gone = false ∧ x.has z
  · have e2 : x.storedL z = x.st.getD z.toNat [] := by rw [Dv.storedL, if_pos hx]
    rw [e2]
    rw [decide_eq_true hx.2] at hhas
    rw [hx.1] at c3
    have hz := hx.2
    unfold Dv.has at hz
    obtain ⟨P, rfl⟩ : ∃ i : Nat, z = (i : Int) := ⟨z.toNat, by omega⟩
    have hst := h.rel.st hx.1 P (by omega)
    rw [Int.toNat_natCast, hst]
    have hll := h.len
    have hmk := make_eq (64 : Int) 64 rfl (by omega)
    obtain ⟨nl, hnl⟩ : ∃ nl, nl = ls.length := ⟨_, rfl⟩
    rw [← hnl] at hll
    have HN := Lib.hid hnl
    have HG := Lib.hid h
    obtain ⟨u0, hu0, hu1, hu2, hu3⟩ := info_parts info_u8
    have Hu0 := Lib.hid hu0
    have Hu1 := Lib.hid hu1
    have Hu2 := Lib.hid hu2
    have Hu3 := Lib.hid hu3
    clear hnl h e2 hx hz hst h1 h2 hu0 hu1 hu2 hu3
    go_enter Try.func43, Try.ntmps43
    go_wp2_with fail
    refine hhas.mono ?_; rintro e w1 ⟨rfl, hw1⟩
    obtain rfl : w = w1 := hw1.symm
    clear hhas c3
    go_wp2_with fail
    clear hmk
    go_loopw [5, 6] (fun v i wr => ∃ (j g c : Nat), j ≤ nl ∧ i = .int .i64 (j : Int) ∧ v = .slice (some ⟨g, 0, none⟩) 64 c ∧ Rw wr g 5 1 64 c (cells (Ev.stored ((ls.take j).map Em.ev) P)) ∧ w.heap.size ≤ g ∧ Below w.heap.size w wr) (fun _ i _ => nl - (intOf i).toNat)
    case atStart => exact ⟨0, w.heap.size, 64, by omega, rfl, rfl, noughts9 w, Nat.le_refl _, (Below.refl _ _).alloc (Nat.le_refl _) _⟩
    case round =>
      obtain ⟨j, g, c, hj, rfl, rfl, hr, hgs, hB⟩ := hrel
      have HR := Lib.hid hr
      have HB := Lib.hid hB
      have HGr := Lib.hid (HG.out.later hB)
      have c1 := HGr.out.c1
      rw [← HN.out] at c1
      clear hr hB
      by_cases hlt : j < nl
      · have hji : (j : Int) < (nl : Int) := by omega
        obtain ⟨m, hm⟩ : ∃ m, ls[j]? = some m := ⟨_, List.getElem?_eq_getElem (by rw [← HN.out]; exact hlt)⟩
        have Hnext := Lib.hid (evs_next hm)
        have hmb := (HGr.out.el.b m (List.mem_of_getElem? hm)).1
        have hmo := HG.out.rel.es m.ev (List.mem_map.2 ⟨m, List.mem_of_getElem? hm, rfl⟩)
        obtain ⟨ga, rfl, -, -, -, -, hrg⟩ := HGr.out.el.cell hm
        obtain ⟨ev, A, ce⟩ := m
        simp only [emc] at hrg hmb hmo Hnext
        obtain ⟨at_, eb, off, mask⟩ := ev
        simp only at hrg hmb
        have HMb := Lib.hid hmb
        have HMo := Lib.hid hmo
        have hze : (zeroValue 83).run Try.prog wr = .ok (.agg #[.int .i64 0, .slice none 0 0, .int .i64 0, .int .u32 0]) wr := by kernel_rfl
        clear hm hmb hmo
        by_cases hz : at_ = P
        · have hzz : ((at_ : Int) != (P : Int)) = false := by simp; omega
          by_cases hmk : mask = 0
          · subst hmk
            have he64 : eb.length = 64 := HMo.out.wr rfl
            rw [he64] at hrg
            rw [he64] at HMb
            have He := Lib.hid he64
            have Hz := Lib.hid hz
            have Hemp := Lib.hid (show Rw ((wr.alloc (.cells #[.int .i64 (at_ : Int), .slice A 64 ce, .int .i64 (off : Int), .int .u32 0] 83)).alloc (.cells #[] 5)) (wr.heap.size + 1) 5 1 0 0 [] by
              have := Rw.new (wr.alloc (.cells #[.int .i64 (at_ : Int), .slice A 64 ce, .int .i64 (off : Int), .int .u32 0] 83)) #[] 5 1 0 rfl (by decide)
              simpa using this)
            have Hsrc := Lib.hid (show Src Try.prog 1 27 (.slice A 64 ce) 64 (cells eb) ((wr.alloc (.cells #[.int .i64 (at_ : Int), .slice A 64 ce, .int .i64 (off : Int), .int .u32 0] 83)).alloc (.cells #[] 5)) from ((HMb.out.later ((Below.refl _ _).alloc (Nat.le_refl _) _)).later ((Below.refl _ _).alloc (Nat.le_refl _) _)).sl.src Try.underlying27 (by decide) (cells_one eb))
            clear hz he64
            go_wp2_with (first
              | (refine at_dst (d := 35) ?_; refine wpList_load_mid (op := ⟨some 35, _, _, _, _, _⟩) rfl 83 (.tmp 34) rfl ga (j * 4) rfl _ _ hrg Try.underlying83 rfl (sizeE9 _ _ _ _) ?_)
              | (at_builtin; refine wpList_append_rw (T := 5) (size := 1) (n := 0) (c := 0) (xs := []) rfl (.tmp 43) (.tmp 45) 27 27 rfl u0 (.int .u8 0) 1 Try.underlying27 Hu0.out Hu1.out Hu2.out Hu3.out rfl (by decide) rfl (.inr ⟨wr.heap.size + 1, rfl, Hemp.out⟩) (.slice A 64 ce) 64 (cells eb) rfl Hsrc.out (by decide) (by decide) (by decide) ?pd))
            intro b2 c2 w2 hr2 hf2 ho2
            have HB2 := Lib.hid (show Below wr.heap.size wr w2 from (((Below.refl _ _).alloc (Nat.le_refl _) _).alloc (by simp) _).trans (hf2.below (by simp; omega) (fun k hk => by
              obtain ⟨o, hk⟩ := hk
              injection hk with hk
              injection hk with hk _
              omega)))
            have HR2 := Lib.hid hr2
            have HG2 := Lib.hid (show w.heap.size ≤ b2 from by have := HB.out.size; omega)
            clear hr2 hf2 ho2
            go_wp2_with fail
            go_roundw
            case rel => exact ⟨j + 1, b2, c2, by omega, by go_num, rfl, by rw [Hnext.out, Ev.stored_snoc, Ev.goes, if_pos Hz.out, if_pos rfl]; exact HR2.out, HG2.out, HB.out.trans (HB2.out.mono HB.out.size)⟩
            case measure => simp [intOf]; omega
          · have hmi : ((mask : Int) == 0) = false := by simpa using hmk
            obtain ⟨ho60, hm32, heb⟩ := HMo.out.rot hmk
            simp only at ho60 hm32
            have Hz := Lib.hid hz
            have Hmk := Lib.hid hmk
            clear hz hmk
            subst heb
            go_wp2_with (first
              | (refine at_dst (d := 35) ?_; refine wpList_load_mid (op := ⟨some 35, _, _, _, _, _⟩) rfl 83 (.tmp 34) rfl ga (j * 4) rfl _ _ hrg Try.underlying83 rfl (sizeE9 _ _ _ _) ?_))
            obtain ⟨wo, rfl⟩ : ∃ v, v = wr := ⟨_, rfl⟩
            have hb64 : (Ev.stored ((ls.take j).map Em.ev) P).length = 64 := Ev.stored_len (n := x.n) P _ (fun e he => HG.out.rel.es e (by
              obtain ⟨m', hm', rfl⟩ := List.mem_map.1 he
              exact List.mem_map.2 ⟨m', List.mem_of_mem_take hm', rfl⟩))
            obtain ⟨bs, hbs⟩ : ∃ bs, bs = Ev.stored ((ls.take j).map Em.ev) P := ⟨_, rfl⟩
            rw [← hbs] at hb64
            have HR := HR
            rw [← hbs] at HR
            have Hbs := Lib.hid hbs
            have Hb64 := Lib.hid hb64
            have Hgl := Lib.hid (show g < wo.heap.size from HR.out.lt)
            have Hnew := Lib.hid (heap_alloc_new wo (.cells #[.int .i64 (at_ : Int), .slice A ([] : List UInt8).length ce, .int .i64 (off : Int), .int .u32 (mask : Int)] 83))
            have HR1 := Lib.hid (HR.out.later ((Below.refl _ _).alloc (Nat.le_refl _) (.cells #[.int .i64 (at_ : Int), .slice A ([] : List UInt8).length ce, .int .i64 (off : Int), .int .u32 (mask : Int)] 83)))
            have HB1 := Lib.hid (HB.out.alloc HB.out.size (.cells #[.int .i64 (at_ : Int), .slice A ([] : List UInt8).length ce, .int .i64 (off : Int), .int .u32 (mask : Int)] 83))
            clear hbs hb64
            go_loopw [8] (fun i wz => ∃ q : Nat, q ≤ 4 ∧ i = .int .i64 (q : Int) ∧ Rw wz g 5 1 64 c (cells (Dv.spoilB bs off mask q)) ∧ Below w.heap.size w wz ∧ wz.heap[wo.heap.size]? = some (.cells #[.int .i64 (at_ : Int), .slice A ([] : List UInt8).length ce, .int .i64 (off : Int), .int .u32 (mask : Int)] 83 (0, 0))) (fun i _ => 4 - (intOf i).toNat)
            case atStart => exact ⟨0, by omega, rfl, by rw [Dv.spoilB_zero Hb64.out]; exact HR1.out, HB1.out, Hnew.out⟩
            case round =>
              obtain ⟨q, hq, rfl, hr, hB, hE⟩ := hrel
              have HRq := Lib.hid hr
              have HBq := Lib.hid hB
              have HEq := Lib.hid hE
              clear hr hB hE
              by_cases hq4 : q < 4
              · have hqi : (q : Int) < 4 := by omega
                have k2 : wr.cell? ⟨wo.heap.size, 2, none⟩ = some (.int .i64 (off : Int)) := by rw [cell_of_row _ _ _ _ _ _ HEq.out]; rfl
                have k3 : wr.cell? ⟨wo.heap.size, 3, none⟩ = some (.int .u32 (mask : Int)) := by rw [cell_of_row _ _ _ _ _ _ HEq.out]; rfl
                have hcell := HRq.out.bytes_at (j := off + q) (by omega)
                rw [Dv.spoilB_get q (by omega)] at hcell
                have hfz := HRq.out.free (off + q)
                have hnew := HRq.out.bytes_set (off + q) (bs.getD (off + q) 0 ^^^ UInt8.ofNat (mask >>> (8 * q)))
                rw [Dv.spoilB_set q (by omega)] at hnew
                have HN2 := Lib.hid hnew
                obtain ⟨u, hu⟩ : ∃ u, u = bs.getD (off + q) 0 := ⟨_, rfl⟩
                rw [← hu] at hcell HN2
                have hgne : ¬ g = wo.heap.size := by have := Hgl.out; omega
                have Hgne := Lib.hid hgne
                clear hnew hu hgne
                go_wp2_with fail
                go_region
                rw [byte_at u mask q]
                go_wp2_with fail
                go_roundw
                case rel => exact ⟨q + 1, by omega, by go_num, HN2.out.later (Below.drew (Below.refl _ _)), Below.drew (HBq.out.setCell (p := ⟨g, off + q, none⟩) hgs _), by
                  have hf : Fr (fun b => b = g) wr (wr.setCell ⟨g, off + q, none⟩ (.int .u8 ((u ^^^ UInt8.ofNat (mask >>> (8 * q))).toNat : Int))) := (Fr.refl (fun b => b = g) _).setCell (p := ⟨g, off + q, none⟩) (.inr rfl) _
                  exact hf.row_some HEq.out (fun e => Hgne.out e.symm)⟩
                case measure => simp [intOf]; omega
              · have hqi : ¬ (q : Int) < 4 := by omega
                obtain rfl : q = 4 := by omega
                have hfin := HRq.out
                rw [Dv.spoilB_four Hb64.out, Hbs.out] at hfin
                have Hfin := Lib.hid hfin
                clear hfin
                go_wp2_with fail
                go_roundw
                case rel => exact ⟨j + 1, g, c, by omega, by go_num, rfl, by rw [Hnext.out, Ev.stored_snoc, Ev.goes, if_pos Hz.out, if_neg Hmk.out]; exact Hfin.out, hgs, HBq.out⟩
                case measure => simp [intOf]; omega
        · have hzz : ((at_ : Int) != (P : Int)) = true := by simp; omega
          have Hz := Lib.hid hz
          clear hz
          go_wp2_with (first
            | (refine at_dst (d := 35) ?_; refine wpList_load_mid (op := ⟨some 35, _, _, _, _, _⟩) rfl 83 (.tmp 34) rfl ga (j * 4) rfl _ _ hrg Try.underlying83 rfl (sizeE9 _ _ _ _) ?_))
          go_roundw
          case rel => exact ⟨j + 1, g, c, by omega, by go_num, rfl, by rw [Hnext.out, Ev.stored_snoc, Ev.goes, if_neg Hz.out]; exact HR.out.later ((Below.refl _ _).alloc (Nat.le_refl _) _), hgs, HB.out.alloc HB.out.size _⟩
          case measure => simp [intOf]; omega
      · have hji : ¬ (j : Int) < (nl : Int) := by omega
        have hall : Ev.stored ((ls.take j).map Em.ev) P = Ev.stored (ls.map Em.ev) P := by rw [List.take_of_length_le (by have := HN.out; omega)]
        rw [hall] at HR
        clear hall
        go_wp2_with fail
        go_ret
        have hlen : (Ev.stored (ls.map Em.ev) P).length = 64 := Ev.stored_len P _ HG.out.rel.es
        exact ⟨_, _, _, rfl, HR.out.sl, HB.out⟩
  · have e2 : x.storedL z = [] := by rw [Dv.storedL, if_neg hx]
    rw [e2]
    cases hg : x.gone
    · rw [hg] at c3
      have hnh : decide (x.has z) = false := decide_eq_false (fun hh => hx ⟨hg, hh⟩)
      rw [hnh] at hhas
      clear e2 hx hnh
      go_enter Try.func43, Try.ntmps43
      go_wp2_with fail
      refine hhas.mono ?_; rintro e w1 ⟨rfl, hw1⟩
      obtain rfl : w = w1 := hw1.symm
      go_wp2_with fail
      go_ret
      exact ⟨_, _, _, rfl, Sl.nil w 1 0 (by decide), Below.refl _ _⟩
    · rw [hg] at c3
      clear e2 hx hhas
      go_enter Try.func43, Try.ntmps43
      go_wp2_with fail
      go_ret
      exact ⟨_, _, _, rfl, Sl.nil w 1 0 (by decide), Below.refl _ _⟩
end
end Go.Proofs.Ytmlmlmlbdjhfhaa

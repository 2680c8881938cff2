/-
  The contract of package drive's Rot: four bytes of a stored sector are spoilt. No condition but bounds.
-/
import Derived.Test.YtmlmlmlbdjhfhaaDrr
import Derived.Test.YtmlmlmlbdjhfhaaDrd
namespace Go.Proofs.Ytmlmlmlbdjhfhaa
open Go.RowKit Go.Proofs Go.Maps
set_option linter.unusedVariables false

theorem flat_set1 {α β : Type} {f : α → List β} {k : Nat} (h : ∀ a, (f a).length = k) : ∀ {l : List α} {i : Nat} {a a' : α} {j : Nat} {v : β}, l[i]? = some a → j < k → (f a).set j v = f a' → (l.flatMap f).set (i * k + j) v = (l.set i a').flatMap f
  | b :: l, 0, a, a', j, v, hb, hj, hv => by
    have hb : b = a := by simpa using hb
    subst hb
    rw [List.flatMap_cons, Nat.zero_mul, Nat.zero_add, List.set_append_left _ _ (by rw [h]; exact hj), hv, List.set_cons_zero, List.flatMap_cons]
  | b :: l, i + 1, a, a', j, v, hb, hj, hv => by
    have hb : l[i]? = some a := by simpa using hb
    have e : (i + 1) * k + j = i * k + j + k := by rw [Nat.add_mul]; omega
    rw [List.flatMap_cons, e, List.set_append_right _ _ (by rw [h]; omega), h, Nat.add_sub_cancel, flat_set1 h hb hj hv, List.set_cons_succ, List.flatMap_cons]
theorem Rw.put1 {w : World} {b : Nat} {T : TypeId} {k n cap : Nat} {xs : List Value} (h : Rw w b T k n cap xs) (o : Nat) (v : Value) : Rw (w.setCell ⟨b, o, none⟩ v) b T k n cap (xs.set o v) := by
  obtain ⟨cur, hb, hs, rfl⟩ := h.ex
  exact ⟨⟨_, heap_setCell_same w b o cur T v hb, by rw [Array.size_setIfInBounds]; exact hs, by rw [Array.toList_setIfInBounds, List.take_set]⟩, h.le, h.top⟩
theorem sec9_byte {b : List UInt8} (hb : b.length = 64) (r : Bool) {j : Nat} (hj : j < 64) (u : UInt8) : (sec9 (b, r)).set j (.int .u8 (u.toNat : Int)) = sec9 (b.set j u, r) := by
  unfold sec9
  rw [pad9_eq hb, pad9_eq (by rw [List.length_set]; exact hb), List.set_append_left _ _ (by rw [cells_length, hb]; exact hj)]
  simp [cells, bv, List.map_set]
theorem sec9_flag {b : List UInt8} (hb : b.length = 64) (r t : Bool) : (sec9 (b, r)).set 64 (.bool t) = sec9 (b, t) := by
  unfold sec9
  rw [pad9_eq hb, List.set_append_right _ _ (by rw [cells_length, hb]; exact Nat.le_refl _), cells_length, hb]
  rfl
namespace Dv
/-- Some of the four bytes are spoilt. -/
def spoilB (b : List UInt8) (o m k : Nat) : List UInt8 := (List.range 64).map fun j => if o ≤ j ∧ j < o + k then b.getD j 0 ^^^ UInt8.ofNat (m >>> (8 * (j - o))) else b.getD j 0
section
variable {b : List UInt8} {o m : Nat}
theorem spoilB_len (k : Nat) : (spoilB b o m k).length = 64 := by simp [spoilB]
theorem spoilB_zero (hb : b.length = 64) : spoilB b o m 0 = b := by
  apply List.ext_getElem
  · rw [spoilB_len, hb]
  · intro i h1 h2
    simp only [spoilB, List.getElem_map, List.getElem_range]
    rw [if_neg (by omega)]
    simp [h2]
theorem spoilB_get (k : Nat) (h : o + k < 64) : (spoilB b o m k).getD (o + k) 0 = b.getD (o + k) 0 := by
  have : o + k < (spoilB b o m k).length := by rw [spoilB_len]; exact h
  rw [List.getD_eq_getElem?_getD, List.getElem?_eq_getElem this, Option.getD_some]
  simp only [spoilB, List.getElem_map, List.getElem_range]
  rw [if_neg (by omega)]
theorem spoilB_set (k : Nat) (h : o + k < 64) : (spoilB b o m k).set (o + k) (b.getD (o + k) 0 ^^^ UInt8.ofNat (m >>> (8 * k))) = spoilB b o m (k + 1) := by
  apply List.ext_getElem
  · rw [List.length_set, spoilB_len, spoilB_len]
  · intro i h1 h2
    rw [List.getElem_set]
    simp only [spoilB, List.getElem_map, List.getElem_range]
    by_cases hi : o + k = i
    · rw [if_pos hi, if_pos (by omega), ← hi, show o + k - o = k from by omega]
    · rw [if_neg hi]
      by_cases h3 : o ≤ i ∧ i < o + k
      · rw [if_pos h3, if_pos (by omega)]
      · rw [if_neg h3, if_neg (by omega)]
theorem spoilB_four (hb : b.length = 64) : spoilB b o m 4 = spoil b o m := by
  unfold spoilB spoil
  rw [hb]
theorem Ok.setSt {x : Dv} (ho : Ok x) {i : Nat} (hi : i < x.n) {c : List UInt8} (hc : c.length = 64) : Ok ⟨x.st.set i c, x.rot, x.wait, x.gone⟩ := by
  refine ⟨ho.wait, fun hg => ?_, ho.dead⟩
  have h := ho.live hg
  refine ⟨by rw [List.length_set]; exact h.1, fun j hj => ?_⟩
  by_cases he : i = j
  · subst he
    have : i < x.st.length := by rw [h.1]; exact hi
    simp [this, hc]
  · have := h.2 j hj
    simpa [he] using this
theorem Ok.setRot {x : Dv} (ho : Ok x) (i : Nat) : Ok ⟨x.st, x.rot.set i true, x.wait, x.gone⟩ := by
  have e : Dv.n ⟨x.st, x.rot.set i true, x.wait, x.gone⟩ = x.n := by simp [Dv.n]
  refine ⟨fun p hp => by rw [e]; exact ho.wait p hp, fun hg => ?_, ho.dead⟩
  rw [e]
  exact ho.live hg
end
end Dv
section
variable {w : World} {D Bd cd cc M : Nat} {x : Dv} {Ac : Option Addr} {ds : List (List UInt8 × Bool)}
theorem Rq.byte {i j : Nat} (h : Rq w D x Bd cd Ac cc M ds) (hg : x.gone = false) (hi : i < x.n) (hj : j < 64) (u : UInt8) :
    Rq (w.setCell ⟨Bd, i * 65 + j, none⟩ (.int .u8 (u.toNat : Int))) D ⟨x.st.set i ((x.st.getD i []).set j u), x.rot, x.wait, x.gone⟩ Bd cd Ac cc M (ds.set i ((x.st.getD i []).set j u, x.rot.getD i false)) := by
  have hF : Fr (fun b => b = Bd) w (w.setCell ⟨Bd, i * 65 + j, none⟩ (.int .u8 (u.toNat : Int))) := (Fr.refl (fun b => b = Bd) _).setCell (p := ⟨Bd, i * 65 + j, none⟩) (.inr rfl) _
  obtain ⟨hd, hl⟩ := h.sect hg hi
  have hdisk := h.disk.put1 (i * 65 + j) (.int .u8 (u.toNat : Int))
  rw [flat_set1 sec9_len hd (by omega) (sec9_byte hl _ hj u)] at hdisk
  refine ⟨hF.row_some h.box h.ne1, hdisk, ?_, h.lst.fr hF (fun e => h.ne3 e.symm), by rw [List.length_set]; exact h.len, h.n1, h.n2, h.ok.setSt hi (by rw [List.length_set]; exact hl), fun _ k hk => ?_⟩
  · rcases h.cch with q | ⟨Bc, hA, hc⟩
    · exact .inl q
    · exact .inr ⟨Bc, hA, hc.fr hF (h.ne4 hA).2.1⟩
  · have hst := (h.ok.live hg).1
    by_cases he : i = k
    · subst he
      have hdl := h.len
      have h1 : i < ds.length := by omega
      have h2 : i < x.st.length := by omega
      simp [h1, h2]
    · have := h.has hg k hk
      simp [he]
      simpa using this
theorem Rq.flag {i : Nat} (h : Rq w D x Bd cd Ac cc M ds) (hg : x.gone = false) (hi : i < x.n) :
    Rq (w.setCell ⟨Bd, i * 65 + 64, none⟩ (.bool true)) D ⟨x.st, x.rot.set i true, x.wait, x.gone⟩ Bd cd Ac cc M (ds.set i (x.st.getD i [], true)) := by
  have hF : Fr (fun b => b = Bd) w (w.setCell ⟨Bd, i * 65 + 64, none⟩ (.bool true)) := (Fr.refl (fun b => b = Bd) _).setCell (p := ⟨Bd, i * 65 + 64, none⟩) (.inr rfl) _
  obtain ⟨hd, hl⟩ := h.sect hg hi
  have hdisk := h.disk.put1 (i * 65 + 64) (.bool true)
  rw [flat_set1 sec9_len hd (by omega) (sec9_flag hl _ true)] at hdisk
  have e : Dv.n ⟨x.st, x.rot.set i true, x.wait, x.gone⟩ = x.n := by simp [Dv.n]
  refine ⟨by rw [e]; exact hF.row_some h.box h.ne1, by rw [e]; exact hdisk, ?_, h.lst.fr hF (fun e => h.ne3 e.symm), by rw [List.length_set, e]; exact h.len, by rw [e]; exact h.n1, by rw [e]; exact h.n2, h.ok.setRot i, fun _ k hk => ?_⟩
  · rcases h.cch with q | ⟨Bc, hA, hc⟩
    · exact .inl q
    · exact .inr ⟨Bc, hA, hc.fr hF (h.ne4 hA).2.1⟩
  · rw [e] at hk
    have hrt : x.rot.length = x.n := rfl
    by_cases he : i = k
    · subst he
      have hdl := h.len
      have h1 : i < ds.length := by omega
      have h2 : i < x.rot.length := by omega
      simp [h1, h2]
    · have := h.has hg k hk
      simp [he]
      simpa using this
set_option maxRecDepth 100000
set_option maxHeartbeats 4000000
theorem dvrot_any (z off : Int) (mask : Nat) (h1 : -9223372036854775808 ≤ z) (h2 : z < 9223372036854775808) (h3 : -9223372036854775808 ≤ off) (h4 : off < 9223372036854775808) (h5 : mask < 4294967296) (h : Rq w D x Bd cd Ac cc M ds) :
    Calls Try.prog 15 #[.pointer (some ⟨D, 0, none⟩), .int .i64 z, .int .i64 off, .int .u32 (mask : Int)] w (RetSt9 (x.rot1 z off (mask : Int)) D Bd cd M Ac (.int .i64 (x.rotX z off (mask : Int))) w) := by
  have hm := dvrefuses_any z h1 h2 h
  by_cases hx : x.gone = false ∧ x.has z
  · rw [Dv.refX_yes hx.1 hx.2] at hm
    by_cases hok : 0 ≤ off ∧ off ≤ 60 ∧ (mask : Int) ≠ 0
    · have e0 : x.rotX z off (mask : Int) = if x.rot.getD z.toNat false = true then 91 else 0 := by
        rw [Dv.rotX, if_neg (by rw [hx.1]; decide), if_neg (fun hh => hh ⟨hx.2, hok.1, hok.2.1, hok.2.2⟩)]
      have hz := hx.2
      unfold Dv.has at hz
      obtain ⟨P, rfl⟩ : ∃ i : Nat, z = (i : Int) := ⟨z.toNat, by omega⟩
      obtain ⟨O, rfl⟩ : ∃ i : Nat, off = (i : Int) := ⟨off.toNat, by omega⟩
      have hi : P < x.n := by omega
      obtain ⟨hd, hl⟩ := h.sect hx.1 hi
      have c0 := h.c0
      have hrc := h.disk.sec_bad hd
      simp only at hrc
      have hO : O ≤ 60 := by omega
      have hOi : ¬ (60 : Int) < (O : Int) := by omega
      have hO0 : ¬ (O : Int) < 0 := by omega
      have hmk : ((mask : Int) == 0) = false := by have := hok.2.2; simpa using this
      have hlt : (P : Int) < (x.n : Int) := by omega
      obtain ⟨n, hxn⟩ : ∃ n, n = x.n := ⟨_, rfl⟩
      rw [← hxn] at c0 hlt
      have HR := Lib.hid h
      have Hi := Lib.hid hi
      have HG := Lib.hid hx.1
      have HL := Lib.hid hl
      rw [Int.toNat_natCast] at e0
      cases hr : x.rot.getD P false
      · rw [hr] at hrc e0
        have e1 : x.rotX (P : Int) (O : Int) (mask : Int) = 0 := e0
        have e2 : x.rot1 (P : Int) (O : Int) (mask : Int) = x.rotAt P O mask := by rw [Dv.rot1, if_pos e1]; simp
        rw [e1, e2]
        obtain ⟨b, hb⟩ : ∃ b, b = x.st.getD P [] := ⟨_, rfl⟩
        have Hb := Lib.hid hb
        have e3 : x.rotAt P O mask = ⟨x.st.set P (Dv.spoil b O mask), x.rot.set P true, x.wait, x.gone⟩ := by rw [hb]; rfl
        rw [e3]
        rw [← hb] at HL
        clear e0 e1 e2 e3 hz hx hok hxn h hi hd hl hb hr h1 h2 h3 h4
        go_enter Try.func15, Try.ntmps15
        go_wp2_with fail
        refine hm.mono ?_; rintro e w1 ⟨rfl, hw1⟩
        obtain rfl : w = w1 := hw1.symm
        clear hm
        go_wp2_with fail
        go_loopw [38] (fun i wr => ∃ (k : Nat) (ds' : List (List UInt8 × Bool)), k ≤ 4 ∧ i = .int .i64 (k : Int) ∧ Rq wr D ⟨x.st.set P (Dv.spoilB b O mask k), x.rot, x.wait, x.gone⟩ Bd cd Ac cc M ds' ∧ Fr (Blk9 D Bd M Ac) w wr) (fun i _ => 4 - (intOf i).toNat)
        case atStart =>
          refine ⟨0, ds, by omega, rfl, ?_, Fr.refl _ _⟩
          rw [Dv.spoilB_zero HL.out, Hb.out]
          have : x.st.set P (x.st.getD P []) = x.st := by
            have h2 : P < x.st.length := by rw [(HR.out.ok.live HG.out).1]; exact Hi.out
            rw [List.getD_eq_getElem?_getD, List.getElem?_eq_getElem h2, Option.getD_some, List.set_getElem_self]
          rw [this]
          exact HR.out
        case round =>
          obtain ⟨k, ds', hk, rfl, hq, hf⟩ := hrel
          have HF := Lib.hid hf
          have hg' : (Dv.mk (x.st.set P (Dv.spoilB b O mask k)) x.rot x.wait x.gone).gone = false := HG.out
          have hyP : (Dv.mk (x.st.set P (Dv.spoilB b O mask k)) x.rot x.wait x.gone).st.getD P [] = Dv.spoilB b O mask k := by
            have h2 : P < x.st.length := by rw [(HR.out.ok.live HG.out).1]; exact Hi.out
            simp [h2]
          have hiy : P < (Dv.mk (x.st.set P (Dv.spoilB b O mask k)) x.rot x.wait x.gone).n := Hi.out
          have hyst : (Dv.mk (x.st.set P (Dv.spoilB b O mask k)) x.rot x.wait x.gone).st = x.st.set P (Dv.spoilB b O mask k) := rfl
          have HQ := Lib.hid hq
          by_cases hk4 : k < 4
          · have hcell := hq.disk.sec_byte (hq.sect hg' hiy).1 (j := O + k) (by omega)
            simp only at hcell
            rw [hyP, Dv.spoilB_get k (by omega)] at hcell
            have hfz := hq.disk.free (P * 65 + (O + k))
            have hnew := hq.byte hg' hiy (j := O + k) (by omega) (b.getD (O + k) 0 ^^^ UInt8.ofNat (mask >>> (8 * k)))
            rw [hyP, Dv.spoilB_set k (by omega)] at hnew
            have hss : (x.st.set P (Dv.spoilB b O mask k)).set P (Dv.spoilB b O mask (k + 1)) = x.st.set P (Dv.spoilB b O mask (k + 1)) := by simp
            simp only at hnew
            rw [hss] at hnew
            have HN := Lib.hid hnew
            have hki : (k : Int) < 4 := by omega
            obtain ⟨u, hu⟩ : ∃ u, u = b.getD (O + k) 0 := ⟨_, rfl⟩
            rw [← hu] at hcell HN
            rw [bv] at hcell
            clear hq hf hg' hyP hiy hyst hnew hss hu
            go_wp2_with fail
            go_region
            rw [byte_at u mask k]
            go_wp2_with fail
            go_roundw
            case rel => exact ⟨k + 1, _, by omega, by go_num, HN.out.later (Below.drew (Below.refl _ _)), (HF.out.setCell (p := ⟨Bd, P * 65 + (O + k), none⟩) (.inr (.inr (.inl rfl))) _).drew⟩
            case measure => simp [intOf]; omega
          · have hki : ¬ (k : Int) < 4 := by omega
            obtain rfl : k = 4 := by omega
            have hcell := hq.disk.sec_bad (hq.sect hg' hiy).1
            simp only at hcell
            have hfz := hq.disk.free (P * 65 + 64)
            have hnew := hq.flag hg' hiy
            simp only [Dv.spoilB_four HL.out] at hnew
            have HN := Lib.hid hnew
            clear hq hf hg' hyP hiy hyst hnew
            go_wp2_with fail
            go_ret
            exact ⟨rfl, HF.out.setCell (p := ⟨Bd, P * 65 + 64, none⟩) (.inr (.inr (.inl rfl))) _, cc, Ac, _, HN.out, fun _ hb => .inl hb⟩
      · rw [hr] at hrc e0
        have e1 : x.rotX (P : Int) (O : Int) (mask : Int) = 91 := e0
        have e2 : x.rot1 (P : Int) (O : Int) (mask : Int) = x := by rw [Dv.rot1, if_neg (by rw [e1]; decide)]
        rw [e1, e2]
        clear e0 e1 e2 hz hx hok hxn h hi hd hl hr h1 h2 h3 h4
        go_enter Try.func15, Try.ntmps15
        go_wp2_with fail
        refine hm.mono ?_; rintro e w1 ⟨rfl, hw1⟩
        obtain rfl : w = w1 := hw1.symm
        go_wp2_with fail
        go_ret
        exact ⟨rfl, Fr.refl _ _, cc, Ac, ds, HR.out, fun _ hb => .inl hb⟩
    · have e1 : x.rotX z off (mask : Int) = 2 := by rw [Dv.rotX, if_neg (by rw [hx.1]; decide), if_pos (fun hh => hok hh.2)]
      have e2 : x.rot1 z off (mask : Int) = x := by rw [Dv.rot1, if_neg (by rw [e1]; decide)]
      rw [e1, e2]
      clear e1 e2
      have HR := Lib.hid h
      by_cases q1 : off < 0
      · clear hok hx h
        go_enter Try.func15, Try.ntmps15
        go_wp2_with fail
        refine hm.mono ?_; rintro e w1 ⟨rfl, hw1⟩
        obtain rfl : w = w1 := hw1.symm
        go_wp2_with fail
        go_ret
        exact ⟨rfl, Fr.refl _ _, cc, Ac, ds, HR.out, fun _ hb => .inl hb⟩
      · by_cases q2 : 60 < off
        · clear hok hx h
          go_enter Try.func15, Try.ntmps15
          go_wp2_with fail
          refine hm.mono ?_; rintro e w1 ⟨rfl, hw1⟩
          obtain rfl : w = w1 := hw1.symm
          go_wp2_with fail
          go_ret
          exact ⟨rfl, Fr.refl _ _, cc, Ac, ds, HR.out, fun _ hb => .inl hb⟩
        · have hmz : mask = 0 := by
            have : ¬ (mask : Int) ≠ 0 := fun hh => hok ⟨by omega, by omega, hh⟩
            omega
          subst hmz
          clear hok hx h
          go_enter Try.func15, Try.ntmps15
          go_wp2_with fail
          refine hm.mono ?_; rintro e w1 ⟨rfl, hw1⟩
          obtain rfl : w = w1 := hw1.symm
          go_wp2_with fail
          go_ret
          exact ⟨rfl, Fr.refl _ _, cc, Ac, ds, HR.out, fun _ hb => .inl hb⟩
  · have e1 := Dv.refX_no hx
    have e2 : x.rotX z off (mask : Int) = x.refX z := by
      rw [Dv.rotX, Dv.refX]
      split
      · rfl
      · rename_i hg
        have hh : ¬ x.has z := fun hh => hx ⟨by simpa using hg, hh⟩
        rw [if_neg hh, if_pos (fun q => hh q.1)]
    have e3 : x.rot1 z off (mask : Int) = x := by rw [Dv.rot1, if_neg (by rw [e2]; exact e1)]
    rw [e2, e3]
    obtain ⟨r, hr⟩ : ∃ r, r = x.refX z := ⟨_, rfl⟩
    rw [← hr] at e1 hm ⊢
    clear hr e2 e3
    go_enter Try.func15, Try.ntmps15
    go_wp2_with fail
    refine hm.mono ?_; rintro e w1 ⟨rfl, hw1⟩
    obtain rfl : w = w1 := hw1.symm
    go_wp2_with fail
    go_ret
    exact ⟨rfl, Fr.refl _ _, cc, Ac, ds, h, fun _ hb => .inl hb⟩
end
end Go.Proofs.Ytmlmlmlbdjhfhaa

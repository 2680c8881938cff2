/-
  The document's drive (layer 9): the contract of its Rot. No condition but bounds.
-/
import Derived.Test.YtmlmlmlbdjhfhaaDsg
namespace Go.Proofs.Ytmlmlmlbdjhfhaa
open Go.RowKit Go.Proofs
set_option linter.unusedVariables false

section
variable {w : World} {S : Nat → Prop} {X k : Nat} {x : Dv}
set_option maxRecDepth 100000
set_option maxHeartbeats 4000000
theorem rfrot_any (z off : Int) (mask : Nat) (h1 : -9223372036854775808 ≤ z) (h2 : z < 9223372036854775808) (h3 : -9223372036854775808 ≤ off) (h4 : off < 9223372036854775808) (h5 : mask < 4294967296) (hk : k ≤ 100000) (h : Rf w S X k x) :
    Calls Try.prog 37 #[.pointer (some ⟨X, 0, none⟩), .int .i64 z, .int .i64 off, .int .u32 (mask : Int)] w fun e w' => e = .returned (.int .i64 (x.rotX z off (mask : Int))) ∧ MutR S X (k + 1) (x.rot1 z off (mask : Int)) w w' := by
  obtain ⟨hS, AL, cL, ls, AW, cW, ws, hg⟩ := h
  have hstay : MutR S X (k + 1) x w w := ⟨S, Rf.mono ⟨hS, AL, cL, ls, AW, cW, ws, hg⟩ (Nat.le_succ _), Fr.refl _ _, fun _ hb => .inl hb⟩
  have HM := Lib.hid hstay
  have c3 := hg.c3
  have hhas := rfhas_any z h1 h2 hg
  have hrt := rfrotten_any z h1 h2 hk hg
  clear hstay
  cases hgg : x.gone
  · rw [hgg] at c3
    by_cases hx : x.has z
    · rw [decide_eq_true hx] at hhas
      by_cases hok : 0 ≤ off ∧ off ≤ 60 ∧ (mask : Int) ≠ 0
      · have e0 : x.rotX z off (mask : Int) = if x.rot.getD z.toNat false = true then 91 else 0 := by
          rw [Dv.rotX, if_neg (by rw [hgg]; decide), if_neg (fun hh => hh ⟨hx, hok.1, hok.2.1, hok.2.2⟩)]
        have er : x.rottenB z = x.rot.getD z.toNat false := by rw [Dv.rottenB, decide_eq_true ⟨hgg, hx⟩, Bool.true_and]
        rw [er] at hrt
        have hz := hx
        unfold Dv.has at hz
        obtain ⟨P, rfl⟩ : ∃ i : Nat, z = (i : Int) := ⟨z.toNat, by omega⟩
        obtain ⟨O, rfl⟩ : ∃ i : Nat, off = (i : Int) := ⟨off.toNat, by omega⟩
        have hP : P < x.n := by omega
        have hO : O ≤ 60 := by omega
        have hO0 : ¬ (O : Int) < 0 := by omega
        have hOi : ¬ (60 : Int) < (O : Int) := by omega
        have hmk : ((mask : Int) == 0) = false := by have := hok.2.2; simpa using this
        have hm0 : mask ≠ 0 := by have := hok.2.2; omega
        rw [Int.toNat_natCast] at e0 hrt
        cases hr : x.rot.getD P false
        · rw [hr] at e0 hrt
          have e1 : x.rotX (P : Int) (O : Int) (mask : Int) = 0 := e0
          rw [e1]
          have c1 := hg.c1
          have hlen := hg.len
          have hrel := hg.rel
          rw [hgg] at hrel
          have HR := Lib.hid (hrel.rotAt hP hO hm0 h5 e1)
          have Hn := Lib.hid (show (x.rot1 (P : Int) (O : Int) (mask : Int)).n = x.n from by rw [Dv.rot1, if_pos e1]; simp [Dv.n, Dv.rotAt])
          have Hg := Lib.hid (show (x.rot1 (P : Int) (O : Int) (mask : Int)).gone = x.gone from by rw [Dv.rot1, if_pos e1]; rfl)
          have Hgg := Lib.hid hgg
          have HG := Lib.hid hg
          have HS := Lib.hid hS
          obtain ⟨i0, hi0, hz0, hz1, hz2⟩ := info_parts infoE9
          clear e0 e1 hg hS hx hz hok hgg hr er hrel h1 h2 h3 h4 hP hm0 hO
          go_enter Try.func37, Try.ntmps37
          go_wp2_with fail
          refine hhas.mono ?_; rintro e w1 ⟨rfl, hw1⟩
          obtain rfl : w = w1 := hw1.symm
          clear hhas
          go_wp2_with fail
          refine hrt.mono ?_; rintro e w1 ⟨rfl, hw1⟩
          obtain rfl : w = w1 := hw1.symm
          clear hrt
          have Hsb := Lib.hid (Sl.made w #[.int .i64 (P : Int), .slice none 0 0, .int .i64 (O : Int), .int .u32 (mask : Int)] 83 4 1 rfl (by decide))
          have HBl := Lib.hid (show Below w.heap.size w (w.alloc (.cells #[.int .i64 (P : Int), .slice none 0 0, .int .i64 (O : Int), .int .u32 (mask : Int)] 83)) from (Below.refl _ _).alloc (Nat.le_refl _) _)
          go_wp2_with (first
            | (refine at_dst (d := 41) ?_; refine wpList_buildSlice (o := ⟨some 41, _, _, _, _, _⟩) rfl 55 83 1 #[(0, .tmp 40)] rfl #[.int .i64 (P : Int), .slice none 0 0, .int .i64 (O : Int), .int .u32 (mask : Int)] i0 (.agg #[.int .i64 0, .slice none 0 0, .int .i64 0, .int .u32 0]) Try.underlying55 hi0 hz0 (by rw [hz1]; decide) (by rw [hz1]; decide) (by rw [hz1]; exact fillE9a _ _ rfl) ?_)
            | (refine at_dst (d := 42) ?_; refine wpList_append_rn (o := ⟨some 42, _, _, _, _, _⟩) rfl (.tmp 36) (.tmp 41) 55 55 rfl i0 (.agg #[.int .i64 0, .slice none 0 0, .int .i64 0, .int .u32 0]) 48 Try.underlying55 hi0 hz0 hz1 hz2 rfl (by decide) rfl (HG.out.later HBl.out).el.rn (.slice (some ⟨w.heap.size, 0, none⟩) 1 1) 1 [.int .i64 (P : Int), .slice none 0 0, .int .i64 (O : Int), .int .u32 (mask : Int)] rfl (Hsb.out.src Try.underlying55 (by decide) (fun u hu => by simp at hu; rcases hu with rfl | rfl | rfl | rfl <;> rfl)) (by unfold maxLen; omega) (by omega) ?pd))
          intro A7 c7 w7 hrn hfb hor
          have hor' : A7 = AL ∨ A7 = some ⟨(w.alloc (.cells #[.int .i64 (P : Int), .slice none 0 0, .int .i64 (O : Int), .int .u32 (mask : Int)] 83)).heap.size, 0, none⟩ := by simpa using hor
          obtain ⟨hF8, hbx8, hrn8, hor8, q1, u1⟩ := Rg.pushL HG.out HS.out HBl.out hfb hrn hor'
          have F8 := Lib.hid hF8
          have BX8 := Lib.hid hbx8
          have RN8 := Lib.hid hrn8
          have OR8 := Lib.hid hor8
          clear hrn hfb hor hor' hF8 hbx8 hrn8 hor8
          go_wp2_with fail
          go_ret
          obtain ⟨m1, m2, m3⟩ := HG.out.moreL (y := x.rot1 (P : Int) (O : Int) (mask : Int)) (ps := [⟨⟨P, [], O, mask⟩, none, 0⟩]) HS.out F8.out BX8.out RN8.out OR8.out (fun m hm => by
            have hm : m = ⟨⟨P, [], O, mask⟩, none, 0⟩ := by simpa using hm
            subst hm
            exact ⟨.inl ⟨rfl, rfl, rfl, rfl⟩, fun b hb => by obtain ⟨o, hb⟩ := hb; cases hb⟩) Hn.out Hg.out (by rw [List.map_append, Hgg.out]; exact HR.out)
          exact ⟨rfl, _, ⟨m1, _, _, _, _, _, _, m2⟩, m3, fun b hb => hb.1⟩
        · rw [hr] at e0 hrt
          have e1 : x.rotX (P : Int) (O : Int) (mask : Int) = 91 := e0
          have e2 : x.rot1 (P : Int) (O : Int) (mask : Int) = x := by rw [Dv.rot1, if_neg (by rw [e1]; decide)]
          rw [e1, e2]
          clear e0 e1 e2 hx hz hok hr er h1 h2 h3 h4
          go_enter Try.func37, Try.ntmps37
          go_wp2_with fail
          refine hhas.mono ?_; rintro e w1 ⟨rfl, hw1⟩
          obtain rfl : w = w1 := hw1.symm
          go_wp2_with fail
          refine hrt.mono ?_; rintro e w1 ⟨rfl, hw1⟩
          obtain rfl : w = w1 := hw1.symm
          go_wp2_with fail
          go_ret
          exact ⟨rfl, HM.out⟩
      · have e1 : x.rotX z off (mask : Int) = 2 := by rw [Dv.rotX, if_neg (by rw [hgg]; decide), if_pos (fun hh => hok hh.2)]
        have e2 : x.rot1 z off (mask : Int) = x := by rw [Dv.rot1, if_neg (by rw [e1]; decide)]
        rw [e1, e2]
        clear e1 e2
        by_cases q1 : off < 0
        · clear hok hx
          go_enter Try.func37, Try.ntmps37
          go_wp2_with fail
          refine hhas.mono ?_; rintro e w1 ⟨rfl, hw1⟩
          obtain rfl : w = w1 := hw1.symm
          go_wp2_with fail
          go_ret
          exact ⟨rfl, HM.out⟩
        · by_cases q2 : 60 < off
          · clear hok hx
            go_enter Try.func37, Try.ntmps37
            go_wp2_with fail
            refine hhas.mono ?_; rintro e w1 ⟨rfl, hw1⟩
            obtain rfl : w = w1 := hw1.symm
            go_wp2_with fail
            go_ret
            exact ⟨rfl, HM.out⟩
          · have hmz : mask = 0 := by
              have : ¬ (mask : Int) ≠ 0 := fun hh => hok ⟨by omega, by omega, hh⟩
              omega
            subst hmz
            clear hok hx
            go_enter Try.func37, Try.ntmps37
            go_wp2_with fail
            refine hhas.mono ?_; rintro e w1 ⟨rfl, hw1⟩
            obtain rfl : w = w1 := hw1.symm
            go_wp2_with fail
            go_ret
            exact ⟨rfl, HM.out⟩
    · rw [decide_eq_false hx] at hhas
      have e1 : x.rotX z off (mask : Int) = 2 := by rw [Dv.rotX, if_neg (by rw [hgg]; decide), if_pos (fun hh => hx hh.1)]
      have e2 : x.rot1 z off (mask : Int) = x := by rw [Dv.rot1, if_neg (by rw [e1]; decide)]
      rw [e1, e2]
      clear e1 e2
      go_enter Try.func37, Try.ntmps37
      go_wp2_with fail
      refine hhas.mono ?_; rintro e w1 ⟨rfl, hw1⟩
      obtain rfl : w = w1 := hw1.symm
      go_wp2_with fail
      go_ret
      exact ⟨rfl, HM.out⟩
  · rw [hgg] at c3
    have e1 : x.rotX z off (mask : Int) = 90 := by rw [Dv.rotX, if_pos hgg]
    have e2 : x.rot1 z off (mask : Int) = x := by rw [Dv.rot1, if_neg (by rw [e1]; decide)]
    rw [e1, e2]
    clear e1 e2 hhas hrt
    go_enter Try.func37, Try.ntmps37
    go_wp2_with fail
    go_ret
    exact ⟨rfl, HM.out⟩
end
end Go.Proofs.Ytmlmlmlbdjhfhaa

/-
  The statement's function NumAgain returns true, whatever the bytes and the place. No condition.
-/
import Derived.Test.YtddcpjblahonhaaAgaina
import Derived.Deep.RegionHeld3
import Derived.Deep.DrawnRows
import Derived.Deep.DeepCutAuto
import Derived.Lib.SlBytesConst
namespace Go.Proofs.Ytddcpjblahonhaa
open Go.RowKit
set_option linter.unusedVariables false

attribute [local go_sem ↓] Go.wp_at_zero Go.wp_at_succ

/-- What a cut behind a test leaves: it answered no; what lay in memory lies there still. -/
def NoTest (W : World) (s : Value) (wx : World) : Prop := s = .bool false ∧ Below W.heap.size W wx

set_option maxHeartbeats 1000000 in
set_option maxRecDepth 100000 in
theorem numAgain_walk (A : Option Addr) (n c : Nat) (l : List UInt8) (at_ : Int) (w : World) (h : Sl w 1 A n c (cells l)) :
    Calls Try.prog 7 #[.slice A n c, .int .i64 at_] w (RetTrue w) := by
  have hn := h.lim
  unfold maxLen at hn
  by_cases hbig : n > 2000
  · have hb' : (n : Int) > 2000 := by omega
    go_enter Try.func7, Try.ntmps7
    go_wp2_with fail
    refine (read_any _).mono ?_; rintro e w1 ⟨rfl, hb1⟩
    go_wp2_with fail
    go_ret
    exact ⟨rfl, hb1⟩
  have hb' : ¬ (n : Int) > 2000 := by omega
  have hlen0 := h.len
  rw [cells_length, Nat.mul_one] at hlen0
  have Hl := Lib.hid hlen0; clear hlen0
  obtain ⟨v, p, e0, hg⟩ : ∃ v p e, varR l at_ = (v, p, e) := ⟨_, _, _, rfl⟩
  have Hg := Lib.hid hg; clear hg
  have H := Lib.hid h; clear h
  have Hbig := Lib.hid hbig; clear hbig
  go_enter Try.func7, Try.ntmps7
  go_wp2_with (at_builtin; refine wpList_append_b (B := w.heap.size) rfl (.tmp 20) (.tmp 21) rfl rfl (Own.full (Sl.nil _ _ _ (by decide))) (Nat.le_refl _) A n c l rfl H.out ?c3 ?c4)
  case c3 => have := Hbig.out; omega
  intro Aw cw w1 how hb1
  have Hw := Lib.hid how.sl; clear how
  have H1 := Lib.hid (H.out.below hb1 (Nat.le_refl _))
  go_wp2_with fail
  refine (var_eq A n c l at_ _ H1.out Hg.out).mono ?_; rintro e w' ⟨rfl, rfl⟩
  go_upto_region 6 with (fail)
  go_cut [53] (fun s wx => NoTest w1 s wx)
  case first =>
    by_cases he : e0 = 0
    · subst he
      have hok := varR_ok (l := l) (at_ := at_)
      rw [Hg.out] at hok
      obtain ⟨a, rfl, k1, k2, k3, k4⟩ := hok rfl
      have k1 : a < p := k1
      have k2 : p ≤ n := by have := Hl.out; rw [← this]; exact k2
      have k3 : v < 2 ^ 64 := k3
      have k4 : venc 9 v = (l.drop a).take (p - a) := k4
      have K3 := Lib.hid k3; clear k3
      have K4 := Lib.hid k4; clear k4
      have hcap := H.out.cap
      have hca : ¬ c = a := by omega
      have ht1 : ((p : Int) ≤ a) = False := by simp; omega
      have ht2 : ¬ ((p : Int) > n) := by omega
      have Hs := Lib.hid (H1.out.sub1 a p (c - a) (by omega) k2 (by omega) (by have := H1.out.top; omega))
      have hS : ∀ W : World, Below w1.heap.size w1 W → (convert 22 9 (.slice (A.map (·.add a)) (p - a) (c - a))).run Try.prog W = .ok (.string (bstr ((l.drop a).take (p - a)))) W := fun W hW =>
        run_string_of (P := Try.prog) 22 5 9 Try.underlying22 Try.underlying5 Try.underlying9 (Hs.out.below hW (Nat.le_refl _))
      have HS := Lib.hid hS; clear hS
      have hd := HS.out w1.drew (Below.drew (Below.refl _ _))
      have h0 := HS.out w1 (Below.refl _ _)
      have hi0 : (0 : Int) ≤ (a : Int) := by omega
      have hi1 : (a : Int) ≤ (p : Int) := by omega
      have hi2 : (p : Int) ≤ (c : Int) := by omega
      clear h0
      refine wp_region_held_drew (S := fun w' => (convert 22 9 (.slice (A.map (·.add a)) (p - a) (c - a))).run Try.prog w' = .ok (.string (bstr ((l.drop a).take (p - a)))) w') (by kernel_rfl) hd (fun hHeld => ?_)
      refine wpAnyH_take (i := 0) (oi := ⟨some 30, _, _, _, _, _⟩) (v := ?v1x0) rfl (by kernel_rfl) (by kernel_rfl) (by kernel_rfl) (fun _ _ _ h => h) (Or.inl ⟨by rfl, ?y1x0⟩) (by assumption) ?r1x0
      case y1x0 => (intro wq hSw; (try dsimp only at hSw); first | (go_simp; done) | (go_simp; with_reducible rfl))
      try simp only [Act.put, List.setIfInBounds_toArray, List.set_cons_zero, List.set_cons_succ]
      refine wpAnyH_take (i := 1) (oi := ⟨some 31, _, _, _, _, _⟩) (v := ?v1x1) rfl (by kernel_rfl) (by kernel_rfl) (by kernel_rfl) (fun _ _ _ h => h) (Or.inl ⟨by rfl, ?y1x1⟩) (by assumption) ?r1x1
      case y1x1 => (intro wq hSw; (try dsimp only at hSw); first | (go_simp; done) | (go_simp; with_reducible rfl))
      try simp only [Act.put, List.setIfInBounds_toArray, List.set_cons_zero, List.set_cons_succ]
      refine wpAnyH_take (i := 2) (oi := ⟨some 32, _, _, _, _, _⟩) (v := ?v1x2) rfl (by kernel_rfl) (by kernel_rfl) (by kernel_rfl) (fun _ _ _ h => h) (Or.inl ⟨by rfl, ?y1x2⟩) (by assumption) ?r1x2
      case y1x2 => (intro wq hSw; (try dsimp only at hSw); first | (go_simp; done) | (go_simp; with_reducible rfl))
      try simp only [Act.put, List.setIfInBounds_toArray, List.set_cons_zero, List.set_cons_succ]
      refine wpAnyH_take (i := 3) (oi := ⟨some 33, _, _, _, _, _⟩) (v := ?v1x3) rfl (by kernel_rfl) (by kernel_rfl) (by kernel_rfl) (fun _ _ _ h => h) (Or.inl ⟨by rfl, ?y1x3⟩) (by assumption) ?r1x3
      case y1x3 => (intro wq hSw; (try dsimp only at hSw); first | (go_simp; done) | (go_simp; with_reducible rfl))
      try simp only [Act.put, List.setIfInBounds_toArray, List.set_cons_zero, List.set_cons_succ]
      refine wpAnyH_take (i := 4) (oi := ⟨some 34, _, _, _, _, _⟩) (v := ?v1x4) rfl (by kernel_rfl) (by kernel_rfl) (by kernel_rfl) (fun _ _ _ h => h) (Or.inl ⟨by rfl, ?y1x4⟩) (by assumption) ?r1x4
      case y1x4 => (intro wq hSw; (try dsimp only at hSw); first | (go_simp; done) | (go_simp; with_reducible rfl))
      try simp only [Act.put, List.setIfInBounds_toArray, List.set_cons_zero, List.set_cons_succ]
      refine wpAnyH_take (i := 5) (oi := ⟨some 35, _, _, _, _, _⟩) (v := ?v1x5) rfl (by kernel_rfl) (by kernel_rfl) (by kernel_rfl) (fun _ _ _ h => h) (Or.inl ⟨by rfl, ?y1x5⟩) (by assumption) ?r1x5
      case y1x5 => (intro wq hSw; (try dsimp only at hSw); first | (go_simp; done) | (go_simp; with_reducible rfl))
      try simp only [Act.put, List.setIfInBounds_toArray, List.set_cons_zero, List.set_cons_succ]
      refine wpAnyH_take (i := 6) (oi := ⟨some 36, _, _, _, _, _⟩) (v := ?v1x6) rfl (by kernel_rfl) (by kernel_rfl) (by kernel_rfl) (fun _ _ _ h => h) (Or.inl ⟨by rfl, ?y1x6⟩) (by assumption) ?r1x6
      case y1x6 => (intro wq hSw; (try dsimp only at hSw); first | (go_simp; done) | (go_simp; with_reducible rfl))
      try simp only [Act.put, List.setIfInBounds_toArray, List.set_cons_zero, List.set_cons_succ]
      refine wpAnyH_take (i := 7) (oi := ⟨some 37, _, _, _, _, _⟩) (v := ?v1x7) rfl (by kernel_rfl) (by kernel_rfl) (by kernel_rfl) (fun _ _ _ h => h) (Or.inl ⟨by rfl, ?y1x7⟩) (by assumption) ?r1x7
      case y1x7 => (intro wq hSw; (try dsimp only at hSw); first | (go_simp; done) | (go_simp; with_reducible rfl))
      try simp only [Act.put, List.setIfInBounds_toArray, List.set_cons_zero, List.set_cons_succ]
      refine wpAnyH_take (i := 8) (oi := ⟨some 38, _, _, _, _, _⟩) (v := ?v1x8) rfl (by kernel_rfl) (by kernel_rfl) (by kernel_rfl) (fun _ _ _ h => h) (Or.inl ⟨by rfl, ?y1x8⟩) (by assumption) ?r1x8
      case y1x8 => (intro wq hSw; (try dsimp only at hSw); first | (go_simp; done) | (go_simp; with_reducible rfl))
      try simp only [Act.put, List.setIfInBounds_toArray, List.set_cons_zero, List.set_cons_succ]
      refine wpAnyH_take (i := 9) (oi := ⟨some 39, _, _, _, _, _⟩) (v := ?v1x9) rfl (by kernel_rfl) (by kernel_rfl) (by kernel_rfl) (fun _ _ _ h => h) (Or.inl ⟨by rfl, ?y1x9⟩) (by assumption) ?r1x9
      case y1x9 => (intro wq hSw; (try dsimp only at hSw); first | (go_simp; done) | (go_simp; with_reducible rfl))
      try simp only [Act.put, List.setIfInBounds_toArray, List.set_cons_zero, List.set_cons_succ]
      refine wpAnyH_take (i := 10) (oi := ⟨some 40, _, _, _, _, _⟩) (v := ?v1x10) rfl (by kernel_rfl) (by kernel_rfl) (by kernel_rfl) (fun _ _ _ h => h) (Or.inl ⟨by rfl, ?y1x10⟩) (by assumption) ?r1x10
      case y1x10 => (intro wq hSw; (try dsimp only at hSw); first | (go_simp; done) | (go_simp; with_reducible rfl))
      try simp only [Act.put, List.setIfInBounds_toArray, List.set_cons_zero, List.set_cons_succ]
      refine wpAnyH_take (i := 11) (oi := ⟨some 41, _, _, _, _, _⟩) (v := ?v1x11) rfl (by kernel_rfl) (by kernel_rfl) (by kernel_rfl) (fun _ _ _ h => h) (Or.inl ⟨by rfl, ?y1x11⟩) (by assumption) ?r1x11
      case y1x11 => (intro wq hSw; (try dsimp only at hSw); first | (go_simp; done) | (go_simp; with_reducible rfl))
      try simp only [Act.put, List.setIfInBounds_toArray, List.set_cons_zero, List.set_cons_succ]
      refine wpAnyH_take (i := 12) (oi := ⟨some 42, _, _, _, _, _⟩) (v := ?v1x12) rfl (by kernel_rfl) (by kernel_rfl) (by kernel_rfl) (fun _ _ _ h => h) (Or.inl ⟨by rfl, ?y1x12⟩) (by assumption) ?r1x12
      case y1x12 => (intro wq hSw; (try dsimp only at hSw); first | (go_simp; done) | (go_simp; with_reducible rfl))
      try simp only [Act.put, List.setIfInBounds_toArray, List.set_cons_zero, List.set_cons_succ]
      refine wpAnyH_take (i := 13) (oi := ⟨some 43, _, _, _, _, _⟩) (v := ?v1x13) rfl (by kernel_rfl) (by kernel_rfl) (by kernel_rfl) (fun _ _ _ h => h) (Or.inl ⟨by rfl, ?y1x13⟩) (by assumption) ?r1x13
      case y1x13 => (intro wq hSw; (try dsimp only at hSw); first | (go_simp; done) | (go_simp; with_reducible rfl))
      try simp only [Act.put, List.setIfInBounds_toArray, List.set_cons_zero, List.set_cons_succ]
      refine wpAnyH_take (i := 16) (oi := ⟨some 46, _, _, _, _, _⟩) (v := ?v1x16) rfl (by kernel_rfl) (by kernel_rfl) (by kernel_rfl) (fun _ _ _ h => h) (Or.inl ⟨by rfl, ?y1x16⟩) (by assumption) ?r1x16
      case y1x16 => (intro wq hSw; (try dsimp only at hSw); first | (go_simp; done) | (go_simp; with_reducible rfl))
      try simp only [Act.put, List.setIfInBounds_toArray, List.set_cons_zero, List.set_cons_succ]
      refine wpAnyH_take (i := 17) (oi := ⟨some 47, _, _, _, _, _⟩) (v := ?v1x17) rfl (by kernel_rfl) (by kernel_rfl) (by kernel_rfl) (fun _ _ _ h => h) (Or.inl ⟨by rfl, ?y1x17⟩) (by assumption) ?r1x17
      case y1x17 => (intro wq hSw; (try dsimp only at hSw); first | (go_simp; done) | (go_simp; with_reducible rfl))
      try simp only [Act.put, List.setIfInBounds_toArray, List.set_cons_zero, List.set_cons_succ]
      refine wpAnyH_take (i := 18) (oi := ⟨some 48, _, _, _, _, _⟩) (v := ?v1x18) rfl (by kernel_rfl) (by kernel_rfl) (by kernel_rfl) (fun _ _ _ h => h) (Or.inl ⟨by rfl, ?y1x18⟩) (by assumption) ?r1x18
      case y1x18 => (intro wq hSw; (try dsimp only at hSw); first | (go_simp; done) | (go_simp; with_reducible rfl))
      try simp only [Act.put, List.setIfInBounds_toArray, List.set_cons_zero, List.set_cons_succ]
      refine wpAnyH_take (i := 19) (oi := ⟨some 49, _, _, _, _, _⟩) (v := ?v1x19) rfl (by kernel_rfl) (by kernel_rfl) (by kernel_rfl) (fun _ _ _ h => h) (Or.inl ⟨by rfl, ?y1x19⟩) (by assumption) ?r1x19
      case y1x19 => (intro wq hSw; (try dsimp only at hSw); first | (go_simp; done) | (go_simp; with_reducible rfl))
      try simp only [Act.put, List.setIfInBounds_toArray, List.set_cons_zero, List.set_cons_succ]
      refine wpAnyH_take (i := 20) (oi := ⟨some 50, _, _, _, _, _⟩) (v := ?v1x20) rfl (by kernel_rfl) (by kernel_rfl) (by kernel_rfl) (fun _ _ _ h => h) (Or.inl ⟨by rfl, ?y1x20⟩) (by assumption) ?r1x20
      case y1x20 => (intro wq hSw; (try dsimp only at hSw); first | (go_simp; done) | (go_simp; with_reducible rfl))
      try simp only [Act.put, List.setIfInBounds_toArray, List.set_cons_zero, List.set_cons_succ]
      refine wpAnyH_ready (rs := [14]) (by kernel_rfl) (by simp) ?_
      refine AllReadyH.cons (o := ⟨some 44, _, _, _, _, _⟩) rfl (fun K hK => ?_) AllReadyH.nil
      go_simp
      refine (putVar_any none 0 0 [] v _ (Sl.nil _ _ _ (by decide)) (by decide) K3.out).mono ?_; rintro e w2 ⟨A2, n2, c2, rfl, h2, hb22⟩
      rw [List.nil_append, K4.out] at h2
      have ka := run_string_of (P := Try.prog) 22 5 9 Try.underlying22 Try.underlying5 Try.underlying9 h2
      have kb := HS.out w2 ((Below.drew (Below.refl _ _)).trans hb22)
      have Hb2 := Lib.hid hb22; clear hb22
      go_wp2_with fail
      refine hK.out _ _ kb (fun hHeld => ?_)
      clear hK K
      try simp only [Act.put, List.setIfInBounds_toArray, List.set_cons_zero, List.set_cons_succ]
      refine wpAnyH_ready (rs := [15]) (by kernel_rfl) (by simp) ?_
      refine AllReadyH.cons (o := ⟨some 45, _, _, _, _, _⟩) rfl (fun K hK => ?_) AllReadyH.nil
      go_simp
      refine hK.out _ _ kb (fun hHeld => ?_)
      clear hK K
      try simp only [Act.put, List.setIfInBounds_toArray, List.set_cons_zero, List.set_cons_succ]
      refine wpAnyH_take (i := 21) (oi := ⟨some 51, _, _, _, _, _⟩) (v := ?v1x21) rfl (by kernel_rfl) (by kernel_rfl) (by kernel_rfl) (fun _ _ _ h => h) (Or.inl ⟨by rfl, ?y1x21⟩) (by assumption) ?r1x21
      case y1x21 => (intro wq hSw; (try dsimp only at hSw); first | (go_simp; done) | (go_simp; with_reducible rfl))
      try simp only [Act.put, List.setIfInBounds_toArray, List.set_cons_zero, List.set_cons_succ]
      refine wpAnyH_take (i := 22) (oi := ⟨some 52, _, _, _, _, _⟩) (v := ?v1x22) rfl (by kernel_rfl) (by kernel_rfl) (by kernel_rfl) (fun _ _ _ h => h) (Or.inl ⟨by rfl, ?y1x22⟩) (by assumption) ?r1x22
      case y1x22 => (intro wq hSw; (try dsimp only at hSw); first | (go_simp; done) | (go_simp; with_reducible rfl))
      try simp only [Act.put, List.setIfInBounds_toArray, List.set_cons_zero, List.set_cons_succ]
      refine wpAnyH_take (i := 23) (oi := ⟨some 53, _, _, _, _, _⟩) (v := ?v1x23) rfl (by kernel_rfl) (by kernel_rfl) (by kernel_rfl) (fun _ _ _ h => h) (Or.inl ⟨by rfl, ?y1x23⟩) (by assumption) ?r1x23
      case y1x23 => (intro wq hSw; (try dsimp only at hSw); first | (go_simp; done) | (go_simp; with_reducible rfl))
      try simp only [Act.put, List.setIfInBounds_toArray, List.set_cons_zero, List.set_cons_succ]
      refine wpAnyH_done (by kernel_rfl) ?_ _
      go_wp2_with fail
      go_meet
      exact ⟨rfl, (Below.drew (Below.refl _ _)).trans Hb2.out⟩
    · have he' : ((e0 : Int) == 0) = false := by simp; omega
      go_quiet (fail)
      go_wp2_with fail
      go_meet
      exact ⟨rfl, ⟨rfl, rfl, rfl, Nat.le_refl _, fun _ _ => rfl⟩⟩
  case rest =>
    obtain ⟨rfl, hbx⟩ := hcut
    obtain ⟨wx, hwx⟩ : ∃ wx : World, wx = wc := ⟨_, rfl⟩
    subst hwx
    have H2 := Lib.hid (H1.out.below hbx (Nat.le_refl _))
    have Hw2 := Lib.hid (Hw.out.below hbx (Nat.le_refl _))
    have hb2 : Below w.heap.size w wx := hb1.trans (hbx.mono hb1.size)
    clear hb1 hbx H1 Hw Hg
    obtain ⟨t, p2, e2, hg2⟩ : ∃ v p e, longR l at_ 2000 = (v, p, e) := ⟨_, _, _, rfl⟩
    have hts := longR_small l at_ 2000
    rw [hg2, Hl.out] at hts
    have Hts := Lib.hid hts; clear hts
    have Hg2 := Lib.hid hg2; clear hg2
    go_wp2_with fail
    have ht := text_any A n c l at_ 2000 _ H2.out (by omega) (by omega)
    rw [Hg2.out] at ht
    refine ht.mono ?_; clear ht; rintro e w' ⟨rfl, rfl⟩
    go_upto_region 9 with (fail)
    go_cut [84] (fun s wy => NoTest wx s wy)
    case first =>
      by_cases he : e2 = 0
      · subst he
        obtain ⟨a, rfl, k1, k2, k4⟩ := longR_ok Hg2.out
        have k2 : p2 ≤ n := by rw [← Hl.out]; exact k2
        obtain ⟨p, hp⟩ : ∃ p, p = p2 := ⟨_, rfl⟩
        subst hp
        have K3 : Hid (0 + (bstr t).size ≤ 140737488355200) := Lib.hid (by rw [bstr_size]; have := Hts.out; have := Hbig.out; omega)
        have K4 := Lib.hid k4; clear k4
        have hcap := H.out.cap
        have hca : ¬ c = a := by omega
        have ht1 : ((p : Int) ≤ a) = False := by simp; omega
        have ht2 : ¬ ((p : Int) > n) := by omega
        have Hs := Lib.hid (H2.out.sub1 a p (c - a) (by omega) k2 (by omega) (by have := H2.out.top; omega))
        have hS : ∀ W : World, Below wx.heap.size wx W → (convert 22 9 (.slice (A.map (·.add a)) (p - a) (c - a))).run Try.prog W = .ok (.string (bstr ((l.drop a).take (p - a)))) W := fun W hW =>
          run_string_of (P := Try.prog) 22 5 9 Try.underlying22 Try.underlying5 Try.underlying9 (Hs.out.below hW (Nat.le_refl _))
        have HS := Lib.hid hS; clear hS
        have hd := HS.out wx.drew (Below.drew (Below.refl _ _))
        have hi0 : (0 : Int) ≤ (a : Int) := by omega
        have hi1 : (a : Int) ≤ (p : Int) := by omega
        have hi2 : (p : Int) ≤ (c : Int) := by omega
        refine wp_region_held_drew (S := fun w' => (convert 22 9 (.slice (A.map (·.add a)) (p - a) (c - a))).run Try.prog w' = .ok (.string (bstr ((l.drop a).take (p - a)))) w') (by kernel_rfl) hd (fun hHeld => ?_)
        refine wpAnyH_take (i := 0) (oi := ⟨some 61, _, _, _, _, _⟩) (v := ?v2x0) rfl (by kernel_rfl) (by kernel_rfl) (by kernel_rfl) (fun _ _ _ h => h) (Or.inl ⟨by rfl, ?y2x0⟩) (by assumption) ?r2x0
        case y2x0 => (intro wq hSw; (try dsimp only at hSw); first | (go_simp; done) | (go_simp; with_reducible rfl))
        try simp only [Act.put, List.setIfInBounds_toArray, List.set_cons_zero, List.set_cons_succ]
        refine wpAnyH_take (i := 1) (oi := ⟨some 62, _, _, _, _, _⟩) (v := ?v2x1) rfl (by kernel_rfl) (by kernel_rfl) (by kernel_rfl) (fun _ _ _ h => h) (Or.inl ⟨by rfl, ?y2x1⟩) (by assumption) ?r2x1
        case y2x1 => (intro wq hSw; (try dsimp only at hSw); first | (go_simp; done) | (go_simp; with_reducible rfl))
        try simp only [Act.put, List.setIfInBounds_toArray, List.set_cons_zero, List.set_cons_succ]
        refine wpAnyH_take (i := 2) (oi := ⟨some 63, _, _, _, _, _⟩) (v := ?v2x2) rfl (by kernel_rfl) (by kernel_rfl) (by kernel_rfl) (fun _ _ _ h => h) (Or.inl ⟨by rfl, ?y2x2⟩) (by assumption) ?r2x2
        case y2x2 => (intro wq hSw; (try dsimp only at hSw); first | (go_simp; done) | (go_simp; with_reducible rfl))
        try simp only [Act.put, List.setIfInBounds_toArray, List.set_cons_zero, List.set_cons_succ]
        refine wpAnyH_take (i := 3) (oi := ⟨some 64, _, _, _, _, _⟩) (v := ?v2x3) rfl (by kernel_rfl) (by kernel_rfl) (by kernel_rfl) (fun _ _ _ h => h) (Or.inl ⟨by rfl, ?y2x3⟩) (by assumption) ?r2x3
        case y2x3 => (intro wq hSw; (try dsimp only at hSw); first | (go_simp; done) | (go_simp; with_reducible rfl))
        try simp only [Act.put, List.setIfInBounds_toArray, List.set_cons_zero, List.set_cons_succ]
        refine wpAnyH_take (i := 4) (oi := ⟨some 65, _, _, _, _, _⟩) (v := ?v2x4) rfl (by kernel_rfl) (by kernel_rfl) (by kernel_rfl) (fun _ _ _ h => h) (Or.inl ⟨by rfl, ?y2x4⟩) (by assumption) ?r2x4
        case y2x4 => (intro wq hSw; (try dsimp only at hSw); first | (go_simp; done) | (go_simp; with_reducible rfl))
        try simp only [Act.put, List.setIfInBounds_toArray, List.set_cons_zero, List.set_cons_succ]
        refine wpAnyH_take (i := 5) (oi := ⟨some 66, _, _, _, _, _⟩) (v := ?v2x5) rfl (by kernel_rfl) (by kernel_rfl) (by kernel_rfl) (fun _ _ _ h => h) (Or.inl ⟨by rfl, ?y2x5⟩) (by assumption) ?r2x5
        case y2x5 => (intro wq hSw; (try dsimp only at hSw); first | (go_simp; done) | (go_simp; with_reducible rfl))
        try simp only [Act.put, List.setIfInBounds_toArray, List.set_cons_zero, List.set_cons_succ]
        refine wpAnyH_take (i := 6) (oi := ⟨some 67, _, _, _, _, _⟩) (v := ?v2x6) rfl (by kernel_rfl) (by kernel_rfl) (by kernel_rfl) (fun _ _ _ h => h) (Or.inl ⟨by rfl, ?y2x6⟩) (by assumption) ?r2x6
        case y2x6 => (intro wq hSw; (try dsimp only at hSw); first | (go_simp; done) | (go_simp; with_reducible rfl))
        try simp only [Act.put, List.setIfInBounds_toArray, List.set_cons_zero, List.set_cons_succ]
        refine wpAnyH_take (i := 7) (oi := ⟨some 68, _, _, _, _, _⟩) (v := ?v2x7) rfl (by kernel_rfl) (by kernel_rfl) (by kernel_rfl) (fun _ _ _ h => h) (Or.inl ⟨by rfl, ?y2x7⟩) (by assumption) ?r2x7
        case y2x7 => (intro wq hSw; (try dsimp only at hSw); first | (go_simp; done) | (go_simp; with_reducible rfl))
        try simp only [Act.put, List.setIfInBounds_toArray, List.set_cons_zero, List.set_cons_succ]
        refine wpAnyH_take (i := 8) (oi := ⟨some 69, _, _, _, _, _⟩) (v := ?v2x8) rfl (by kernel_rfl) (by kernel_rfl) (by kernel_rfl) (fun _ _ _ h => h) (Or.inl ⟨by rfl, ?y2x8⟩) (by assumption) ?r2x8
        case y2x8 => (intro wq hSw; (try dsimp only at hSw); first | (go_simp; done) | (go_simp; with_reducible rfl))
        try simp only [Act.put, List.setIfInBounds_toArray, List.set_cons_zero, List.set_cons_succ]
        refine wpAnyH_take (i := 9) (oi := ⟨some 70, _, _, _, _, _⟩) (v := ?v2x9) rfl (by kernel_rfl) (by kernel_rfl) (by kernel_rfl) (fun _ _ _ h => h) (Or.inl ⟨by rfl, ?y2x9⟩) (by assumption) ?r2x9
        case y2x9 => (intro wq hSw; (try dsimp only at hSw); first | (go_simp; done) | (go_simp; with_reducible rfl))
        try simp only [Act.put, List.setIfInBounds_toArray, List.set_cons_zero, List.set_cons_succ]
        refine wpAnyH_take (i := 10) (oi := ⟨some 71, _, _, _, _, _⟩) (v := ?v2x10) rfl (by kernel_rfl) (by kernel_rfl) (by kernel_rfl) (fun _ _ _ h => h) (Or.inl ⟨by rfl, ?y2x10⟩) (by assumption) ?r2x10
        case y2x10 => (intro wq hSw; (try dsimp only at hSw); first | (go_simp; done) | (go_simp; with_reducible rfl))
        try simp only [Act.put, List.setIfInBounds_toArray, List.set_cons_zero, List.set_cons_succ]
        refine wpAnyH_take (i := 11) (oi := ⟨some 72, _, _, _, _, _⟩) (v := ?v2x11) rfl (by kernel_rfl) (by kernel_rfl) (by kernel_rfl) (fun _ _ _ h => h) (Or.inl ⟨by rfl, ?y2x11⟩) (by assumption) ?r2x11
        case y2x11 => (intro wq hSw; (try dsimp only at hSw); first | (go_simp; done) | (go_simp; with_reducible rfl))
        try simp only [Act.put, List.setIfInBounds_toArray, List.set_cons_zero, List.set_cons_succ]
        refine wpAnyH_take (i := 12) (oi := ⟨some 73, _, _, _, _, _⟩) (v := ?v2x12) rfl (by kernel_rfl) (by kernel_rfl) (by kernel_rfl) (fun _ _ _ h => h) (Or.inl ⟨by rfl, ?y2x12⟩) (by assumption) ?r2x12
        case y2x12 => (intro wq hSw; (try dsimp only at hSw); first | (go_simp; done) | (go_simp; with_reducible rfl))
        try simp only [Act.put, List.setIfInBounds_toArray, List.set_cons_zero, List.set_cons_succ]
        refine wpAnyH_take (i := 13) (oi := ⟨some 74, _, _, _, _, _⟩) (v := ?v2x13) rfl (by kernel_rfl) (by kernel_rfl) (by kernel_rfl) (fun _ _ _ h => h) (Or.inl ⟨by rfl, ?y2x13⟩) (by assumption) ?r2x13
        case y2x13 => (intro wq hSw; (try dsimp only at hSw); first | (go_simp; done) | (go_simp; with_reducible rfl))
        try simp only [Act.put, List.setIfInBounds_toArray, List.set_cons_zero, List.set_cons_succ]
        refine wpAnyH_take (i := 16) (oi := ⟨some 77, _, _, _, _, _⟩) (v := ?v2x16) rfl (by kernel_rfl) (by kernel_rfl) (by kernel_rfl) (fun _ _ _ h => h) (Or.inl ⟨by rfl, ?y2x16⟩) (by assumption) ?r2x16
        case y2x16 => (intro wq hSw; (try dsimp only at hSw); first | (go_simp; done) | (go_simp; with_reducible rfl))
        try simp only [Act.put, List.setIfInBounds_toArray, List.set_cons_zero, List.set_cons_succ]
        refine wpAnyH_take (i := 17) (oi := ⟨some 78, _, _, _, _, _⟩) (v := ?v2x17) rfl (by kernel_rfl) (by kernel_rfl) (by kernel_rfl) (fun _ _ _ h => h) (Or.inl ⟨by rfl, ?y2x17⟩) (by assumption) ?r2x17
        case y2x17 => (intro wq hSw; (try dsimp only at hSw); first | (go_simp; done) | (go_simp; with_reducible rfl))
        try simp only [Act.put, List.setIfInBounds_toArray, List.set_cons_zero, List.set_cons_succ]
        refine wpAnyH_take (i := 18) (oi := ⟨some 79, _, _, _, _, _⟩) (v := ?v2x18) rfl (by kernel_rfl) (by kernel_rfl) (by kernel_rfl) (fun _ _ _ h => h) (Or.inl ⟨by rfl, ?y2x18⟩) (by assumption) ?r2x18
        case y2x18 => (intro wq hSw; (try dsimp only at hSw); first | (go_simp; done) | (go_simp; with_reducible rfl))
        try simp only [Act.put, List.setIfInBounds_toArray, List.set_cons_zero, List.set_cons_succ]
        refine wpAnyH_take (i := 19) (oi := ⟨some 80, _, _, _, _, _⟩) (v := ?v2x19) rfl (by kernel_rfl) (by kernel_rfl) (by kernel_rfl) (fun _ _ _ h => h) (Or.inl ⟨by rfl, ?y2x19⟩) (by assumption) ?r2x19
        case y2x19 => (intro wq hSw; (try dsimp only at hSw); first | (go_simp; done) | (go_simp; with_reducible rfl))
        try simp only [Act.put, List.setIfInBounds_toArray, List.set_cons_zero, List.set_cons_succ]
        refine wpAnyH_take (i := 20) (oi := ⟨some 81, _, _, _, _, _⟩) (v := ?v2x20) rfl (by kernel_rfl) (by kernel_rfl) (by kernel_rfl) (fun _ _ _ h => h) (Or.inl ⟨by rfl, ?y2x20⟩) (by assumption) ?r2x20
        case y2x20 => (intro wq hSw; (try dsimp only at hSw); first | (go_simp; done) | (go_simp; with_reducible rfl))
        try simp only [Act.put, List.setIfInBounds_toArray, List.set_cons_zero, List.set_cons_succ]
        refine wpAnyH_ready (rs := [14]) (by kernel_rfl) (by simp) ?_
        refine AllReadyH.cons (o := ⟨some 75, _, _, _, _, _⟩) rfl (fun K hK => ?_) AllReadyH.nil
        go_simp
        refine (putText_any none 0 0 [] (bstr t) _ (Sl.nil _ _ _ (by decide)) K3.out).mono ?_; rintro e w2 ⟨A2, n2, c2, rfl, h2, hb22⟩
        rw [List.nil_append, bstr_size, bstr_data, K4.out] at h2
        have ka := run_string_of (P := Try.prog) 22 5 9 Try.underlying22 Try.underlying5 Try.underlying9 h2
        have kb := HS.out w2 ((Below.drew (Below.refl _ _)).trans hb22)
        have Hb2 := Lib.hid hb22; clear hb22
        go_wp2_with fail
        refine hK.out _ _ kb (fun hHeld => ?_)
        clear hK K
        try simp only [Act.put, List.setIfInBounds_toArray, List.set_cons_zero, List.set_cons_succ]
        refine wpAnyH_ready (rs := [15]) (by kernel_rfl) (by simp) ?_
        refine AllReadyH.cons (o := ⟨some 76, _, _, _, _, _⟩) rfl (fun K hK => ?_) AllReadyH.nil
        go_simp
        refine hK.out _ _ kb (fun hHeld => ?_)
        clear hK K
        try simp only [Act.put, List.setIfInBounds_toArray, List.set_cons_zero, List.set_cons_succ]
        refine wpAnyH_take (i := 21) (oi := ⟨some 82, _, _, _, _, _⟩) (v := ?v2x21) rfl (by kernel_rfl) (by kernel_rfl) (by kernel_rfl) (fun _ _ _ h => h) (Or.inl ⟨by rfl, ?y2x21⟩) (by assumption) ?r2x21
        case y2x21 => (intro wq hSw; (try dsimp only at hSw); first | (go_simp; done) | (go_simp; with_reducible rfl))
        try simp only [Act.put, List.setIfInBounds_toArray, List.set_cons_zero, List.set_cons_succ]
        refine wpAnyH_take (i := 22) (oi := ⟨some 83, _, _, _, _, _⟩) (v := ?v2x22) rfl (by kernel_rfl) (by kernel_rfl) (by kernel_rfl) (fun _ _ _ h => h) (Or.inl ⟨by rfl, ?y2x22⟩) (by assumption) ?r2x22
        case y2x22 => (intro wq hSw; (try dsimp only at hSw); first | (go_simp; done) | (go_simp; with_reducible rfl))
        try simp only [Act.put, List.setIfInBounds_toArray, List.set_cons_zero, List.set_cons_succ]
        refine wpAnyH_take (i := 23) (oi := ⟨some 84, _, _, _, _, _⟩) (v := ?v2x23) rfl (by kernel_rfl) (by kernel_rfl) (by kernel_rfl) (fun _ _ _ h => h) (Or.inl ⟨by rfl, ?y2x23⟩) (by assumption) ?r2x23
        case y2x23 => (intro wq hSw; (try dsimp only at hSw); first | (go_simp; done) | (go_simp; with_reducible rfl))
        try simp only [Act.put, List.setIfInBounds_toArray, List.set_cons_zero, List.set_cons_succ]
        refine wpAnyH_done (by kernel_rfl) ?_ _
        go_wp2_with fail
        go_meet
        exact ⟨rfl, (Below.drew (Below.refl _ _)).trans Hb2.out⟩
      · have he' : ((e2 : Int) == 0) = false := by simp; omega
        go_quiet (fail)
        go_wp2_with fail
        go_meet
        exact ⟨rfl, ⟨rfl, rfl, rfl, Nat.le_refl _, fun _ _ => rfl⟩⟩
    case rest =>
      obtain ⟨rfl, hby⟩ := hcut
      obtain ⟨wy, hwy⟩ : ∃ wy : World, wy = wc := ⟨_, rfl⟩
      subst hwy
      have H3 := Lib.hid (H2.out.below hby (Nat.le_refl _))
      have Hw3 := Lib.hid (Hw2.out.below hby (Nat.le_refl _))
      have hb3 : Below w.heap.size w wy := hb2.trans (hby.mono hb2.size)
      clear hb2 hby H2 Hw2
      go_wp2_with fail
      have hbs := bytes_any A n c l at_ 2000 _ H3.out (by have := Hbig.out; omega) (by omega) (by omega)
      rw [Hg2.out] at hbs
      refine hbs.mono ?_; clear hbs; rintro e w4 ⟨A4, n4, c4, rfl, h4, hb4, hm4⟩
      have Hb4 := Lib.hid hb4; clear hb4
      have Hm4 := Lib.hid hm4; clear hm4
      have Hl4 : Hid (t.length = n4) := Lib.hid (by have := h4.len; rw [cells_length, Nat.mul_one] at this; exact this)
      clear h4
      go_upto_if 93 with (fail)
      go_cut [15] (fun s wz => Below wy.heap.size wy wz)
      case first =>
        by_cases he : e2 = 0
        · subst he
          obtain ⟨a, rfl, k1, k2, -⟩ := longR_ok Hg2.out
          have k2 : p2 ≤ n := by rw [← Hl.out]; exact k2
          obtain ⟨p, hp⟩ : ∃ p, p = p2 := ⟨_, rfl⟩
          subst hp
          have ht1 : ¬ ((p : Int) ≤ a) := by omega
          have ht2 : ¬ ((p : Int) > n) := by omega
          have hn4 : n4 ≤ 2000 := by have h6 : t.length ≤ n := Hts.out; have := Hl4.out; have := Hbig.out; omega
          by_cases hz : n4 = 0
          · subst hz
            go_wp2_with fail
            go_loopw [15] (fun q wr => q = .int .i64 0 ∧ wr = w4) (fun _ _ => 0)
            case atStart => exact ⟨rfl, rfl⟩
            case round =>
              obtain ⟨rfl, rfl⟩ := hrel
              go_wp2_with fail
              go_meet
              exact Hb4.out
          · obtain ⟨g, cur, rfl, hg, hh, hns, hcur⟩ := Hm4.out (by omega)
            have hcell0 : ∀ j, j < n4 → ∃ u : UInt8, cur[j]? = some (bv u) := fun j hj => by
              have h1 : (cells t)[j]? = cur[j]? := by
                rw [← hcur, List.getElem?_take, if_pos hj, Array.getElem?_toList]
              rw [← h1, cells_get _ _ (by have := Hl4.out; omega)]
              exact ⟨_, rfl⟩
            have Hcell0 := Lib.hid hcell0; clear hcell0 hcur
            have Hh := Lib.hid hh; clear hh
            have Hns := Lib.hid hns; clear hns
            go_wp2_with fail
            go_loopw [15] (fun q wr => ∃ (k : Nat) (cu : Array Value), k ≤ n4 ∧ q = .int .i64 (k : Int) ∧ wr.heap[g]? = some (.cells cu 5 (0, 0)) ∧ n4 ≤ cu.size ∧ (∀ j, j < n4 → ∃ u : UInt8, cu[j]? = some (bv u)) ∧ Below wy.heap.size wy wr) (fun q _ => n4 - (intOf q).toNat)
            case atStart => exact ⟨0, cur, by omega, rfl, Hh.out, Hns.out, Hcell0.out, Hb4.out⟩
            case round =>
              obtain ⟨k, cu, hk, rfl, hh, hns, hall, hb⟩ := hrel
              by_cases hlt : k < n4
              · obtain ⟨u, hu⟩ := hall k hlt
                have hcell : wr.cell? ⟨g, k, none⟩ = some (.int .u8 (u.toNat : Int)) := by rw [cell_of_row wr g k cu _ (0, 0) hh]; exact hu
                have hfro : wr.frozen? ⟨g, k, none⟩ = false := by simp [World.frozen?, hh]
                have Hh2 := Lib.hid hh; clear hh
                have Hall := Lib.hid hall; clear hall hu
                have Hns2 := Lib.hid hns; clear hns
                have hub := u.toNat_lt
                have Hb := Lib.hid hb; clear hb
                go_wp2_with fail
                go_roundw
                case rel => exact ⟨k + 1, cu.setIfInBounds k (bv (u + 1)), by omega, by go_num, by rw [bv_next]; exact heap_set Hh2.out, by rw [Array.size_setIfInBounds]; exact Hns2.out, all_set hlt Hns2.out Hall.out, Hb.out.setCell hg _⟩
                case measure => simp [intOf]; omega
              · go_wp2_with fail
                go_meet
                exact hb
        · have he' : ((e2 : Int) == 0) = false := by simp; omega
          go_wp2_with fail
          go_meet
          exact Hb4.out
      case rest =>
        obtain ⟨wz, hwz⟩ : ∃ wz : World, wz = wc := ⟨_, rfl⟩
        subst hwz
        have H5 := Lib.hid (H3.out.below hcut (Nat.le_refl _))
        have Hw5 := Lib.hid (Hw3.out.below hcut (Nat.le_refl _))
        have hb5 : Below w.heap.size w wz := hb3.trans (hcut.mono hb3.size)
        clear hb3 hcut H3 Hw3 Hb4 Hm4
        have hcc := H.out.cap
        have hd0 : (0 : Int) ≤ (n : Int) / 2 := by omega
        have hd1 : (n : Int) / 2 ≤ (c : Int) := by omega
        have hnn : n / 2 ≤ n := by omega
        have Hnn := Lib.hid hnn; clear hnn hcc
        go_wp2_with fail
        refine (put_any A (n / 2) c (l.take (n / 2)) 8 7 _ (H5.out.pre Hnn.out) (by have := Hbig.out; omega) (by decide)).mono ?_; rintro e w6 ⟨A6, n6, c6, rfl, -, hb6⟩
        have hb56 : Below w.heap.size w w6 := hb5.trans (hb6.mono hb5.size)
        have H6 := Lib.hid (H5.out.below hb6 (Nat.le_refl _))
        have Hw6 := Lib.hid (Hw5.out.below hb6 (Nat.le_refl _))
        clear hb5 hb6 H5 Hw5
        go_wp2_with fail
        refine (putVar_any A (n / 2) c (l.take (n / 2)) 777777 _ (H6.out.pre Hnn.out) (by have := Hbig.out; omega) (by decide)).mono ?_; rintro e w7 ⟨A7, n7, c7, rfl, -, hb7⟩
        have hb57 : Below w.heap.size w w7 := hb56.trans (hb7.mono hb56.size)
        have H7 := Lib.hid (H6.out.below hb7 (Nat.le_refl _))
        have Hw7 := Lib.hid (Hw6.out.below hb7 (Nat.le_refl _))
        clear hb56 hb7 H6 Hw6
        have kc := fun (w : World) (C : Array Value) (n c : Nat) => Lib.run_convert_bytes_const (P := Try.prog) w 22 5 C n c Try.underlying22 Try.underlying5
        have hb7a : ∀ fr : Nat × Nat, Below w7.heap.size w7 (w7.alloc (.cells #[.int .u8 120, .int .u8 121, .int .u8 122] 5 fr)) := fun fr => (Below.refl _ _).alloc (Nat.le_refl _) _
        have H8 := Lib.hid (fun fr => H7.out.below (hb7a fr) (Nat.le_refl _))
        have Hw8 := Lib.hid (fun fr => Hw7.out.below (hb7a fr) (Nat.le_refl _))
        have Hb8 := Lib.hid (fun fr => hb57.trans ((hb7a fr).mono hb57.size))
        clear hb57 hb7a H7 Hw7
        go_wp2_with fail
        refine (putBytes_any A (n / 2) c (l.take (n / 2)) (some ⟨w7.heap.size, 0, none⟩) 3 3 [120, 121, 122] _ ((H8.out _).pre Hnn.out) (Sl.three w7 5 _ 120 121 122) (by have := Hbig.out; omega)).mono ?_; rintro e w9 ⟨A9, n9, c9, rfl, -, hb9⟩
        have k1 := run_string_of (P := Try.prog) (w := w9) 22 5 9 Try.underlying22 Try.underlying5 Try.underlying9 ((H8.out _).below hb9 (Nat.le_refl _))
        have hww := (Hw8.out _).below hb9 (Nat.le_refl _)
        have k2 := run_string_of (P := Try.prog) (w := w9) 22 5 9 Try.underlying22 Try.underlying5 Try.underlying9 hww
        have Hb9 := Lib.hid ((Hb8.out _).trans (hb9.mono (Hb8.out (3, 4)).size))
        clear hb9 hww kc
        go_wp2_with fail
        refine (read_any _).mono ?_; rintro e w10 ⟨rfl, hb10⟩
        go_wp2_with fail
        go_ret
        exact ⟨rfl, Hb9.out.trans (hb10.mono Hb9.out.size)⟩
end Go.Proofs.Ytddcpjblahonhaa

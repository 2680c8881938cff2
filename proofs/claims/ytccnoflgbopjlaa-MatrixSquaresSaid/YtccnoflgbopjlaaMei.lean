/-
  The two Ranks of whatever matrices. Condition: the field is one that New made.
-/
import Derived.Test.YtccnoflgbopjlaaMeh
import Derived.Test.YtccnoflgbopjlaaMdv
namespace Go.Proofs.Ytccnoflgbopjlaa
open Go.RowKit Go.Proofs
set_option linter.unusedVariables false

/-- n is m's rank; 0, if m isn't right. -/
def RkR (m : M3) (n : Int) : Prop := (∃ (R C L : Nat), m.Is R C (mx C m.l) ∧ n = (L : Int) ∧ Rk R C (mx C m.l) L) ∨ (m.ok = false ∧ n = 0)
theorem M3.ok_false {m : M3} {R C : Nat} {f : Mx} (h : m.Is R C f) (h0 : m.ok = false) : False := by rw [h.ok] at h0; cases h0
theorem RkR.one {m : M3} {n n' : Int} (h : RkR m n) (h' : RkR m n') : n = n' := by
  rcases h with ⟨R, C, L, h1, rfl, h2⟩ | ⟨h1, rfl⟩
  · rcases h' with ⟨R', C', L', h1', rfl, h2'⟩ | ⟨h1', rfl⟩
    · obtain ⟨e1, e2⟩ := h1.unique h1'
      subst e1; subst e2
      rw [h2.unique h2']
    · exact (M3.ok_false h1 h1').elim
  · rcases h' with ⟨R', C', L', h1', rfl, h2'⟩ | ⟨h1', rfl⟩
    · exact (M3.ok_false h1' h1).elim
    · rfl
theorem Rk.alike {r c k : Nat} {M M' : Mx} (h : Rk r c M k) (e : Alike r c M M') : Rk r c M' k :=
  ⟨h.fac.congr e, fun k' hk hf => h.least k' hk (hf.congr fun i hi j hj => (e i hi j hj).symm)⟩
theorem RkR.of {m : M3} {n : Int} {R C : Nat} {f : Mx} (h : RkR m n) (hM : m.Is R C f) : ∃ L : Nat, n = (L : Int) ∧ Rk R C f L := by
  rcases h with ⟨R', C', L, h1, rfl, h2⟩ | ⟨h1, rfl⟩
  · obtain ⟨e1, e2⟩ := h1.unique hM
    subst e1; subst e2
    exact ⟨L, rfl, h2.alike hM.mx⟩
  · exact (M3.ok_false hM h1).elim
theorem M3.rightB_no {m : M3} (h : ¬ m.ok = true) : rightB m.r m.c m.l.length = false := by
  have : m.ok = false := by cases e : m.ok <;> simp_all
  exact this

theorem rank_all (F T : Nat) (m : M3) (P : Option Addr) (p : Nat) (w : World) (h : Fld w F T) (hm : MxAt w T P m.l.length p m.l) :
    Calls Try.prog 25 #[.pointer (some ⟨F, 0, none⟩), .agg #[.int .i64 m.r, .int .i64 m.c, .slice P m.l.length p]] w fun e w' => (∃ n, e = .returned (.int .i64 n) ∧ RkR m n) ∧ Fld1 w' F T ∧ Fr (Ft T) w w' := by
  by_cases hok : m.ok = true
  · obtain ⟨R, C, hM⟩ := M3.is_of_ok hok
    rw [hM.r, hM.c]
    have hh := rank_yes F T R C P m.l.length p m.l hM.r1 hM.r2 hM.c1 hM.c2 hM.len w h hm
    refine hh.mono ?_; rintro e w' ⟨L, rfl, hk, h1, h2⟩
    exact ⟨⟨_, rfl, .inl ⟨R, C, L, hM, rfl, hk⟩⟩, h1, h2⟩
  · have hh := rank_no F T m.r m.c P m.l.length p hm.sl.lim (M3.rightB_no hok) w h
    refine hh.mono ?_; rintro e w' ⟨rfl, h1, h2⟩
    exact ⟨⟨_, rfl, .inr ⟨M3.rightB_no hok, rfl⟩⟩, h1, h2⟩
theorem rrank_all (m : M3) (P : Option Addr) (p : Nat) (w : World) (s1 : Sl w 1 P m.l.length p (cells m.l)) :
    Calls Try.prog 24 #[.agg #[.int .i64 m.r, .int .i64 m.c, .slice P m.l.length p]] w fun e w' => (∃ n, e = .returned (.int .i64 n) ∧ RkR m n) ∧ Below w.heap.size w w' := by
  by_cases hok : m.ok = true
  · obtain ⟨R, C, hM⟩ := M3.is_of_ok hok
    refine (rrank_yes m P p w s1 R C hM).mono ?_; rintro e w' ⟨L, rfl, hk, hb⟩
    exact ⟨⟨_, rfl, .inl ⟨R, C, L, hM, rfl, hk⟩⟩, hb⟩
  · refine (rrank_no m P p w s1.lim (M3.rightB_no hok)).mono ?_; rintro e w' ⟨rfl, hb⟩
    exact ⟨⟨_, rfl, .inr ⟨M3.rightB_no hok, rfl⟩⟩, hb⟩
theorem St.one1 {w w' : World} {F T : Nat} {a : M3} {A1 : Option Addr} {p1 : Nat} (h0 : Below w.heap.size w w') (hf : Fld w' F T) (hT : w.heap.size + 1 ≤ T) (hx : w'.heap[w.heap.size]? = some (a.box A1 p1)) (s1 : Sl w 1 A1 a.l.length p1 (cells a.l)) : St w F T [⟨w.heap.size, a, A1, p1⟩] w' := by
  refine ⟨⟨h0, hf, by omega⟩, fun v hv => ?_⟩
  rcases List.mem_cons.1 hv with rfl | hv
  · exact MB.arg s1 h0 (by omega) hx (by show w.heap.size ≠ T; omega)
  · cases hv

set_option maxRecDepth 20000 in
set_option maxHeartbeats 6400000 in
theorem matrixRanks_walk (m : M3) (P : Option Addr) (p : Nat) (w : World) (s1 : Sl w 1 P m.l.length p (cells m.l)) :
    Calls Try.prog 6 #[m.v P p] w (SaysTrue w) := by
  rw [M3.v]
  have hlim := s1.lim
  have K1 := Lib.hid s1; clear s1
  have hb0 : Below w.heap.size w (w.alloc (m.box P p)) := (Below.refl _ _).alloc (Nat.le_refl _) _
  have hx0 := heap_alloc_new w (m.box P p)
  by_cases ha : m.l.length ≤ 150
  · go_enter Try.func6, Try.ntmps6
    go_wp2_with fail
    have hh := few_any m.r m.c P m.l.length p (w.alloc (m.box P p))
    rw [decide_eq_true ha] at hh
    refine hh.mono ?_; clear hh; rintro e w1 ⟨rfl, hb1⟩
    have X1 := Lib.hid ((hb1.block _ (block_lt hx0)).trans hx0)
    have B1 := Lib.hid (hb0.trans (hb1.mono hb0.size))
    clear hx0 hb0 hb1
    go_wp2_with fail
    refine (new_any _).mono ?_; rintro e w2 ⟨rfl, hf, hb⟩
    have S0 := Lib.hid (St.one1 (B1.out.trans (hb.mono B1.out.size)) hf (block_lt X1.out) ((hb.block _ (block_lt X1.out)).trans X1.out) K1.out)
    clear hf hb
    have v0 : (⟨w.heap.size, m, P, p⟩ : Vr) ∈ [(⟨w.heap.size, m, P, p⟩ : Vr)] := List.mem_cons_self
    have M0 := S0.out.vars _ v0
    have q0 := M0.c0; have q1 := M0.c1; have q2 := M0.c2
    have hm0 := M0.mx
    have M0 := Lib.hid M0
    go_wp2_with fail
    have hh := rank_all (w1.heap.size + 1) w1.heap.size m P p w2 S0.out.inn.fld hm0
    refine hh.mono ?_; clear hh hm0 q0 q1 q2 M0; rintro e w3 ⟨⟨n, rfl, hn⟩, hf, hr⟩
    have N1 := Lib.hid hn; clear hn
    have S1 := Lib.hid (S0.out.call hf hr); clear hf hr S0
    have M0 := S1.out.vars _ v0
    have q0 := M0.c0; have q1 := M0.c1; have q2 := M0.c2
    have hm0 := M0.mx.sl
    have M0 := Lib.hid M0
    go_wp2_with fail
    have hh := rrank_all m P p w3 hm0
    refine hh.mono ?_; clear hh hm0 q0 q1 q2 M0; rintro e w4 ⟨⟨n', rfl, hn⟩, hb⟩
    obtain rfl : n' = n := hn.one N1.out
    clear hn
    have S2 := Lib.hid (S1.out.later hb); clear hb S1
    have M0 := S2.out.vars _ v0
    have q0 := M0.c0; have q1 := M0.c1; have q2 := M0.c2
    have M0 := Lib.hid M0
    go_wp2_with fail
    have hh := rank_nil m.r m.c P m.l.length p w4
    refine hh.mono ?_; clear hh q0 q1 q2 M0; rintro e w5 ⟨rfl, hb⟩
    have S3 := Lib.hid (S2.out.later hb); clear hb S2
    have M0 := S3.out.vars _ v0
    have q0 := M0.c0; have q1 := M0.c1; have q2 := M0.c2
    have M0 := Lib.hid M0
    go_wp2_with fail
    have hh := rright_any m.r m.c P m.l.length p hlim w5
    refine hh.mono ?_; clear hh q0 q1 q2 M0; rintro e w6 ⟨rfl, hb⟩
    have S4 := Lib.hid (S3.out.later hb); clear hb S3
    rcases N1.out with ⟨R, C, L, hM, rfl, hk⟩ | ⟨hno, rfl⟩
    · have hle := hk.le
      have d0 : decide ((L : Int) ≥ 0) = true := by simp
      have d1 : decide ((L : Int) ≤ m.r) = true := by have := hM.r; simp; omega
      have d2 : decide ((L : Int) ≤ m.c) = true := by have := hM.c; simp; omega
      rw [show rightB m.r m.c m.l.length = true from hM.ok]
      have HM := Lib.hid hM; clear hM
      have HK := Lib.hid hk; clear hk
      have M0 := S4.out.vars _ v0
      have q0 := M0.c0; have q1 := M0.c1; have q2 := M0.c2
      have hm0 := M0.mx.sl
      have M0 := Lib.hid M0
      go_wp2_with fail
      have hh := rturned_any m P p w6 hm0 R C HM.out
      refine hh.mono ?_; clear hh hm0 q0 q1 q2 M0; rintro e w7 ⟨o, A, cp, rfl, hg, ho, hb⟩
      have Ho := Lib.hid ho; clear ho
      have hm7 := hg.at_ (T := w1.heap.size) S4.out.inn.fld.ltT
      have S5 := Lib.hid (S4.out.later hb); clear hb S4 hg
      rw [M3.v]
      go_wp2_with fail
      have hh := rank_all (w1.heap.size + 1) w1.heap.size o A cp w7 S5.out.inn.fld hm7
      refine hh.mono ?_; clear hh hm7; rintro e w8 ⟨⟨n, rfl, hn⟩, hf, hr⟩
      have S6 := Lib.hid (S5.out.call hf hr); clear hf hr S5
      obtain rfl : n = (L : Int) := by
        have h1 := M3.is_of (f := fun j i => mx C m.l i j) HM.out.c1 HM.out.c2 HM.out.r1 HM.out.r2
        rw [← Ho.out] at h1
        obtain ⟨L', e, hk'⟩ := hn.of h1
        rw [e, hk'.unique HK.out.turned]
      clear hn
      go_wp2_with fail
      refine (stands_any _).mono ?_; rintro e w9 ⟨rfl, hb⟩
      have hend := Lib.hid (S6.out.later hb).inn.below; clear hb
      go_wp2_with fail
      go_ret
      exact ⟨rfl, hend.out⟩
    · rw [show rightB m.r m.c m.l.length = false from hno]
      go_wp2_with fail
      refine (stands_any _).mono ?_; rintro e w9 ⟨rfl, hb⟩
      have hend := Lib.hid (S4.out.later hb).inn.below; clear hb
      go_wp2_with fail
      go_ret
      exact ⟨rfl, hend.out⟩
  · go_enter Try.func6, Try.ntmps6
    go_wp2_with fail
    have hh := few_any m.r m.c P m.l.length p (w.alloc (m.box P p))
    rw [decide_eq_false ha] at hh
    refine hh.mono ?_; clear hh; rintro e w1 ⟨rfl, hb1⟩
    go_wp2_with fail
    refine (stands_any _).mono ?_; rintro e w3 ⟨rfl, hb3⟩
    go_wp2_with fail
    go_ret
    exact ⟨rfl, (hb0.trans (hb1.mono hb0.size)).trans (hb3.mono (Nat.le_trans hb0.size hb1.size))⟩
end Go.Proofs.Ytccnoflgbopjlaa

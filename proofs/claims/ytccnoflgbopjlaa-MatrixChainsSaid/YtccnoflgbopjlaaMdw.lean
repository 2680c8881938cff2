/-
  MatrixChains returns true, whatever its arguments. No condition. (Written by gen_mdw.py.)
-/
import Derived.Test.YtccnoflgbopjlaaMdv
namespace Go.Proofs.Ytccnoflgbopjlaa
open Go.RowKit Go.Proofs
set_option linter.unusedVariables false

set_option maxRecDepth 20000 in
set_option maxHeartbeats 6400000 in
theorem matrixChains_walk (a b c : M3) (Pa Pb Pc : Option Addr) (p1 p2 p3 : Nat) (w : World) (s1 : Sl w 1 Pa a.l.length p1 (cells a.l)) (s2 : Sl w 1 Pb b.l.length p2 (cells b.l)) (s3 : Sl w 1 Pc c.l.length p3 (cells c.l)) :
    Calls Try.prog 8 #[a.v Pa p1, b.v Pb p2, c.v Pc p3] w (SaysTrue w) := by
  have l1 := s1.lim
  have l2 := s2.lim
  have l3 := s3.lim
  unfold maxLen at l1 l2 l3
  rw [M3.v, M3.v, M3.v]
  have K1 := Lib.hid s1; clear s1
  have K2 := Lib.hid s2; clear s2
  have K3 := Lib.hid s3; clear s3
  by_cases h1 : a.l.length > 100
  · have d1 : decide ((a.l.length : Int) > 100) = true := by simp; omega
    have hb0 : Below w.heap.size w (((w.alloc (.cells #[.int .i64 a.r, .int .i64 a.c, .slice Pa a.l.length p1] 24)).alloc (.cells #[.int .i64 b.r, .int .i64 b.c, .slice Pb b.l.length p2] 24)).alloc (.cells #[.int .i64 c.r, .int .i64 c.c, .slice Pc c.l.length p3] 24)) := (((Below.refl _ _).alloc (Nat.le_refl _) _).alloc (by simp) _).alloc (by simp; omega) _
    go_enter Try.func8, Try.ntmps8
    go_wp2_with fail
    refine (stands_any _).mono ?_; rintro e w1 ⟨rfl, hb⟩
    go_wp2_with fail
    go_ret
    exact ⟨rfl, hb0.trans (hb.mono hb0.size)⟩
  have d1 : decide ((a.l.length : Int) > 100) = false := by simp; omega
  by_cases h2 : b.l.length > 100
  · have d2 : decide ((b.l.length : Int) > 100) = true := by simp; omega
    have hb0 : Below w.heap.size w (((w.alloc (.cells #[.int .i64 a.r, .int .i64 a.c, .slice Pa a.l.length p1] 24)).alloc (.cells #[.int .i64 b.r, .int .i64 b.c, .slice Pb b.l.length p2] 24)).alloc (.cells #[.int .i64 c.r, .int .i64 c.c, .slice Pc c.l.length p3] 24)) := (((Below.refl _ _).alloc (Nat.le_refl _) _).alloc (by simp) _).alloc (by simp; omega) _
    go_enter Try.func8, Try.ntmps8
    go_wp2_with fail
    refine (stands_any _).mono ?_; rintro e w1 ⟨rfl, hb⟩
    go_wp2_with fail
    go_ret
    exact ⟨rfl, hb0.trans (hb.mono hb0.size)⟩
  have d2 : decide ((b.l.length : Int) > 100) = false := by simp; omega
  by_cases h3 : c.l.length > 100
  · have d3 : decide ((c.l.length : Int) > 100) = true := by simp; omega
    have hb0 : Below w.heap.size w (((w.alloc (.cells #[.int .i64 a.r, .int .i64 a.c, .slice Pa a.l.length p1] 24)).alloc (.cells #[.int .i64 b.r, .int .i64 b.c, .slice Pb b.l.length p2] 24)).alloc (.cells #[.int .i64 c.r, .int .i64 c.c, .slice Pc c.l.length p3] 24)) := (((Below.refl _ _).alloc (Nat.le_refl _) _).alloc (by simp) _).alloc (by simp; omega) _
    go_enter Try.func8, Try.ntmps8
    go_wp2_with fail
    refine (stands_any _).mono ?_; rintro e w1 ⟨rfl, hb⟩
    go_wp2_with fail
    go_ret
    exact ⟨rfl, hb0.trans (hb.mono hb0.size)⟩
  have d3 : decide ((c.l.length : Int) > 100) = false := by simp; omega
  go_enter Try.func8, Try.ntmps8
  have hb0 : Below w.heap.size w (((w.alloc (.cells #[.int .i64 a.r, .int .i64 a.c, .slice Pa a.l.length p1] 24)).alloc (.cells #[.int .i64 b.r, .int .i64 b.c, .slice Pb b.l.length p2] 24)).alloc (.cells #[.int .i64 c.r, .int .i64 c.c, .slice Pc c.l.length p3] 24)) := (((Below.refl _ _).alloc (Nat.le_refl _) _).alloc (by simp) _).alloc (by simp; omega) _
  go_wp2_with fail
  refine (new_any _).mono ?_; rintro e wn ⟨rfl, hf, hb⟩
  have hz0 : (((w.alloc (.cells #[.int .i64 a.r, .int .i64 a.c, .slice Pa a.l.length p1] 24)).alloc (.cells #[.int .i64 b.r, .int .i64 b.c, .slice Pb b.l.length p2] 24)).alloc (.cells #[.int .i64 c.r, .int .i64 c.c, .slice Pc c.l.length p3] 24)).heap.size = w.heap.size + 3 := by simp
  rw [hz0] at hf
  have S0 := Lib.hid (St.start3 hf hz0.symm hb K1.out K2.out K3.out)
  clear hf hb hb0 hz0
  have q11_0 : (wn).cell? ⟨w.heap.size, 0, none⟩ = some (.int .i64 a.r) := S0.out.c0 (v := ⟨w.heap.size, a, Pa, p1⟩) (List.mem_iff_getElem?.2 ⟨0, rfl⟩)
  have q11_1 : (wn).cell? ⟨w.heap.size, 1, none⟩ = some (.int .i64 a.c) := S0.out.c1 (v := ⟨w.heap.size, a, Pa, p1⟩) (List.mem_iff_getElem?.2 ⟨0, rfl⟩)
  have q11_2 : (wn).cell? ⟨w.heap.size, 2, none⟩ = some (.slice Pa a.l.length p1) := S0.out.c2 (v := ⟨w.heap.size, a, Pa, p1⟩) (List.mem_iff_getElem?.2 ⟨0, rfl⟩)
  have q12_0 : (wn).cell? ⟨(w.heap.size + 1), 0, none⟩ = some (.int .i64 b.r) := S0.out.c0 (v := ⟨(w.heap.size + 1), b, Pb, p2⟩) (List.mem_iff_getElem?.2 ⟨1, rfl⟩)
  have q12_1 : (wn).cell? ⟨(w.heap.size + 1), 1, none⟩ = some (.int .i64 b.c) := S0.out.c1 (v := ⟨(w.heap.size + 1), b, Pb, p2⟩) (List.mem_iff_getElem?.2 ⟨1, rfl⟩)
  have q12_2 : (wn).cell? ⟨(w.heap.size + 1), 2, none⟩ = some (.slice Pb b.l.length p2) := S0.out.c2 (v := ⟨(w.heap.size + 1), b, Pb, p2⟩) (List.mem_iff_getElem?.2 ⟨1, rfl⟩)
  go_wp2_with fail
  have hh := mul_all (w.heap.size + 3 + 1) (w.heap.size + 3) a b Pa Pb p1 p2 (wn) S0.out.inn.fld (S0.out.vars ⟨w.heap.size, a, Pa, p1⟩ (List.mem_iff_getElem?.2 ⟨0, rfl⟩)).mx (S0.out.vars ⟨(w.heap.size + 1), b, Pb, p2⟩ (List.mem_iff_getElem?.2 ⟨1, rfl⟩)).mx
  refine hh.mono ?_; clear hh; rintro e w13 ⟨⟨m13, A13, cp13, x13, rfl, hm, hR, _⟩, hf, hr⟩
  have R1 := Lib.hid hR; clear hR
  have S13 := Lib.hid ((S0.out.call hf hr).add m13 A13 cp13 hm)
  have bz13 := hr.size
  clear q11_0 q11_1 q11_2 q12_0 q12_1 q12_2
  clear hm hf hr S0
  rw [M3.v]
  have q14_0 : (w13.alloc (.cells #[.int .i64 m13.r, .int .i64 m13.c, .slice A13 m13.l.length cp13] 24)).cell? ⟨(w.heap.size + 1), 0, none⟩ = some (.int .i64 b.r) := S13.out.c0 (v := ⟨(w.heap.size + 1), b, Pb, p2⟩) (List.mem_iff_getElem?.2 ⟨2, rfl⟩)
  have q14_1 : (w13.alloc (.cells #[.int .i64 m13.r, .int .i64 m13.c, .slice A13 m13.l.length cp13] 24)).cell? ⟨(w.heap.size + 1), 1, none⟩ = some (.int .i64 b.c) := S13.out.c1 (v := ⟨(w.heap.size + 1), b, Pb, p2⟩) (List.mem_iff_getElem?.2 ⟨2, rfl⟩)
  have q14_2 : (w13.alloc (.cells #[.int .i64 m13.r, .int .i64 m13.c, .slice A13 m13.l.length cp13] 24)).cell? ⟨(w.heap.size + 1), 2, none⟩ = some (.slice Pb b.l.length p2) := S13.out.c2 (v := ⟨(w.heap.size + 1), b, Pb, p2⟩) (List.mem_iff_getElem?.2 ⟨2, rfl⟩)
  have q15_0 : (w13.alloc (.cells #[.int .i64 m13.r, .int .i64 m13.c, .slice A13 m13.l.length cp13] 24)).cell? ⟨(w.heap.size + 1 + 1), 0, none⟩ = some (.int .i64 c.r) := S13.out.c0 (v := ⟨(w.heap.size + 1 + 1), c, Pc, p3⟩) (List.mem_iff_getElem?.2 ⟨3, rfl⟩)
  have q15_1 : (w13.alloc (.cells #[.int .i64 m13.r, .int .i64 m13.c, .slice A13 m13.l.length cp13] 24)).cell? ⟨(w.heap.size + 1 + 1), 1, none⟩ = some (.int .i64 c.c) := S13.out.c1 (v := ⟨(w.heap.size + 1 + 1), c, Pc, p3⟩) (List.mem_iff_getElem?.2 ⟨3, rfl⟩)
  have q15_2 : (w13.alloc (.cells #[.int .i64 m13.r, .int .i64 m13.c, .slice A13 m13.l.length cp13] 24)).cell? ⟨(w.heap.size + 1 + 1), 2, none⟩ = some (.slice Pc c.l.length p3) := S13.out.c2 (v := ⟨(w.heap.size + 1 + 1), c, Pc, p3⟩) (List.mem_iff_getElem?.2 ⟨3, rfl⟩)
  go_wp2_with fail
  have hh := mul_all (w.heap.size + 3 + 1) (w.heap.size + 3) b c Pb Pc p2 p3 (w13.alloc (.cells #[.int .i64 m13.r, .int .i64 m13.c, .slice A13 m13.l.length cp13] 24)) S13.out.inn.fld (S13.out.vars ⟨(w.heap.size + 1), b, Pb, p2⟩ (List.mem_iff_getElem?.2 ⟨2, rfl⟩)).mx (S13.out.vars ⟨(w.heap.size + 1 + 1), c, Pc, p3⟩ (List.mem_iff_getElem?.2 ⟨3, rfl⟩)).mx
  refine hh.mono ?_; clear hh; rintro e w16 ⟨⟨m16, A16, cp16, x16, rfl, hm, hR, _⟩, hf, hr⟩
  have R2 := Lib.hid hR; clear hR
  have S16 := Lib.hid ((S13.out.call hf hr).add m16 A16 cp16 hm)
  have bz16 := hr.size
  clear q14_0 q14_1 q14_2 q15_0 q15_1 q15_2
  clear hm hf hr S13
  rw [M3.v]
  by_cases hx : x13 = 0
  · subst hx
    by_cases hx : x16 = 0
    · subst hx
      have q17_0 : (w16.alloc (.cells #[.int .i64 m16.r, .int .i64 m16.c, .slice A16 m16.l.length cp16] 24)).cell? ⟨w13.heap.size, 0, none⟩ = some (.int .i64 m13.r) := S16.out.c0 (v := ⟨w13.heap.size, m13, A13, cp13⟩) (List.mem_iff_getElem?.2 ⟨1, rfl⟩)
      have q17_1 : (w16.alloc (.cells #[.int .i64 m16.r, .int .i64 m16.c, .slice A16 m16.l.length cp16] 24)).cell? ⟨w13.heap.size, 1, none⟩ = some (.int .i64 m13.c) := S16.out.c1 (v := ⟨w13.heap.size, m13, A13, cp13⟩) (List.mem_iff_getElem?.2 ⟨1, rfl⟩)
      have q17_2 : (w16.alloc (.cells #[.int .i64 m16.r, .int .i64 m16.c, .slice A16 m16.l.length cp16] 24)).cell? ⟨w13.heap.size, 2, none⟩ = some (.slice A13 m13.l.length cp13) := S16.out.c2 (v := ⟨w13.heap.size, m13, A13, cp13⟩) (List.mem_iff_getElem?.2 ⟨1, rfl⟩)
      have q18_0 : (w16.alloc (.cells #[.int .i64 m16.r, .int .i64 m16.c, .slice A16 m16.l.length cp16] 24)).cell? ⟨(w.heap.size + 1 + 1), 0, none⟩ = some (.int .i64 c.r) := S16.out.c0 (v := ⟨(w.heap.size + 1 + 1), c, Pc, p3⟩) (List.mem_iff_getElem?.2 ⟨4, rfl⟩)
      have q18_1 : (w16.alloc (.cells #[.int .i64 m16.r, .int .i64 m16.c, .slice A16 m16.l.length cp16] 24)).cell? ⟨(w.heap.size + 1 + 1), 1, none⟩ = some (.int .i64 c.c) := S16.out.c1 (v := ⟨(w.heap.size + 1 + 1), c, Pc, p3⟩) (List.mem_iff_getElem?.2 ⟨4, rfl⟩)
      have q18_2 : (w16.alloc (.cells #[.int .i64 m16.r, .int .i64 m16.c, .slice A16 m16.l.length cp16] 24)).cell? ⟨(w.heap.size + 1 + 1), 2, none⟩ = some (.slice Pc c.l.length p3) := S16.out.c2 (v := ⟨(w.heap.size + 1 + 1), c, Pc, p3⟩) (List.mem_iff_getElem?.2 ⟨4, rfl⟩)
      go_wp2_with fail
      have hh := mul_all (w.heap.size + 3 + 1) (w.heap.size + 3) m13 c A13 Pc cp13 p3 (w16.alloc (.cells #[.int .i64 m16.r, .int .i64 m16.c, .slice A16 m16.l.length cp16] 24)) S16.out.inn.fld (S16.out.vars ⟨w13.heap.size, m13, A13, cp13⟩ (List.mem_iff_getElem?.2 ⟨1, rfl⟩)).mx (S16.out.vars ⟨(w.heap.size + 1 + 1), c, Pc, p3⟩ (List.mem_iff_getElem?.2 ⟨4, rfl⟩)).mx
      refine hh.mono ?_; clear hh; rintro e w19 ⟨⟨m19, A19, cp19, x19, rfl, hm, hR, _⟩, hf, hr⟩
      have R3 := Lib.hid hR; clear hR
      have S19 := Lib.hid ((S16.out.call hf hr).add m19 A19 cp19 hm)
      have bz19 := hr.size
      clear q17_0 q17_1 q17_2 q18_0 q18_1 q18_2
      clear hm hf hr S16
      rw [M3.v]
      have q20_0 : (w19.alloc (.cells #[.int .i64 m19.r, .int .i64 m19.c, .slice A19 m19.l.length cp19] 24)).cell? ⟨w.heap.size, 0, none⟩ = some (.int .i64 a.r) := S19.out.c0 (v := ⟨w.heap.size, a, Pa, p1⟩) (List.mem_iff_getElem?.2 ⟨3, rfl⟩)
      have q20_1 : (w19.alloc (.cells #[.int .i64 m19.r, .int .i64 m19.c, .slice A19 m19.l.length cp19] 24)).cell? ⟨w.heap.size, 1, none⟩ = some (.int .i64 a.c) := S19.out.c1 (v := ⟨w.heap.size, a, Pa, p1⟩) (List.mem_iff_getElem?.2 ⟨3, rfl⟩)
      have q20_2 : (w19.alloc (.cells #[.int .i64 m19.r, .int .i64 m19.c, .slice A19 m19.l.length cp19] 24)).cell? ⟨w.heap.size, 2, none⟩ = some (.slice Pa a.l.length p1) := S19.out.c2 (v := ⟨w.heap.size, a, Pa, p1⟩) (List.mem_iff_getElem?.2 ⟨3, rfl⟩)
      have q21_0 : (w19.alloc (.cells #[.int .i64 m19.r, .int .i64 m19.c, .slice A19 m19.l.length cp19] 24)).cell? ⟨w16.heap.size, 0, none⟩ = some (.int .i64 m16.r) := S19.out.c0 (v := ⟨w16.heap.size, m16, A16, cp16⟩) (List.mem_iff_getElem?.2 ⟨1, rfl⟩)
      have q21_1 : (w19.alloc (.cells #[.int .i64 m19.r, .int .i64 m19.c, .slice A19 m19.l.length cp19] 24)).cell? ⟨w16.heap.size, 1, none⟩ = some (.int .i64 m16.c) := S19.out.c1 (v := ⟨w16.heap.size, m16, A16, cp16⟩) (List.mem_iff_getElem?.2 ⟨1, rfl⟩)
      have q21_2 : (w19.alloc (.cells #[.int .i64 m19.r, .int .i64 m19.c, .slice A19 m19.l.length cp19] 24)).cell? ⟨w16.heap.size, 2, none⟩ = some (.slice A16 m16.l.length cp16) := S19.out.c2 (v := ⟨w16.heap.size, m16, A16, cp16⟩) (List.mem_iff_getElem?.2 ⟨1, rfl⟩)
      go_wp2_with fail
      have hh := mul_all (w.heap.size + 3 + 1) (w.heap.size + 3) a m16 Pa A16 p1 cp16 (w19.alloc (.cells #[.int .i64 m19.r, .int .i64 m19.c, .slice A19 m19.l.length cp19] 24)) S19.out.inn.fld (S19.out.vars ⟨w.heap.size, a, Pa, p1⟩ (List.mem_iff_getElem?.2 ⟨3, rfl⟩)).mx (S19.out.vars ⟨w16.heap.size, m16, A16, cp16⟩ (List.mem_iff_getElem?.2 ⟨1, rfl⟩)).mx
      refine hh.mono ?_; clear hh; rintro e w22 ⟨⟨m22, A22, cp22, x22, rfl, hm, hR, _⟩, hf, hr⟩
      have R4 := Lib.hid hR; clear hR
      have S22 := Lib.hid ((S19.out.call hf hr).add m22 A22 cp22 hm)
      have bz22 := hr.size
      clear q20_0 q20_1 q20_2 q21_0 q21_1 q21_2
      clear hm hf hr S19
      rw [M3.v]
      obtain ⟨e3, e4, hxy⟩ := chains_assoc R1.out R2.out R3.out R4.out
      subst e3; subst e4
      have Hxy := Lib.hid hxy; clear hxy
      have q23_0 : (w22.alloc (.cells #[.int .i64 m22.r, .int .i64 m22.c, .slice A22 m22.l.length cp22] 24)).cell? ⟨w19.heap.size, 0, none⟩ = some (.int .i64 m19.r) := S22.out.c0 (v := ⟨w19.heap.size, m19, A19, cp19⟩) (List.mem_iff_getElem?.2 ⟨1, rfl⟩)
      have q23_1 : (w22.alloc (.cells #[.int .i64 m22.r, .int .i64 m22.c, .slice A22 m22.l.length cp22] 24)).cell? ⟨w19.heap.size, 1, none⟩ = some (.int .i64 m19.c) := S22.out.c1 (v := ⟨w19.heap.size, m19, A19, cp19⟩) (List.mem_iff_getElem?.2 ⟨1, rfl⟩)
      have q23_2 : (w22.alloc (.cells #[.int .i64 m22.r, .int .i64 m22.c, .slice A22 m22.l.length cp22] 24)).cell? ⟨w19.heap.size, 2, none⟩ = some (.slice A19 m19.l.length cp19) := S22.out.c2 (v := ⟨w19.heap.size, m19, A19, cp19⟩) (List.mem_iff_getElem?.2 ⟨1, rfl⟩)
      have q24_0 : (w22.alloc (.cells #[.int .i64 m22.r, .int .i64 m22.c, .slice A22 m22.l.length cp22] 24)).cell? ⟨w22.heap.size, 0, none⟩ = some (.int .i64 m22.r) := S22.out.c0 (v := ⟨w22.heap.size, m22, A22, cp22⟩) (List.mem_iff_getElem?.2 ⟨0, rfl⟩)
      have q24_1 : (w22.alloc (.cells #[.int .i64 m22.r, .int .i64 m22.c, .slice A22 m22.l.length cp22] 24)).cell? ⟨w22.heap.size, 1, none⟩ = some (.int .i64 m22.c) := S22.out.c1 (v := ⟨w22.heap.size, m22, A22, cp22⟩) (List.mem_iff_getElem?.2 ⟨0, rfl⟩)
      have q24_2 : (w22.alloc (.cells #[.int .i64 m22.r, .int .i64 m22.c, .slice A22 m22.l.length cp22] 24)).cell? ⟨w22.heap.size, 2, none⟩ = some (.slice A22 m22.l.length cp22) := S22.out.c2 (v := ⟨w22.heap.size, m22, A22, cp22⟩) (List.mem_iff_getElem?.2 ⟨0, rfl⟩)
      go_wp2_with fail
      have hh := same_yes m19 m22 A19 A22 cp19 cp22 (w22.alloc (.cells #[.int .i64 m22.r, .int .i64 m22.c, .slice A22 m22.l.length cp22] 24)) (S22.out.vars ⟨w19.heap.size, m19, A19, cp19⟩ (List.mem_iff_getElem?.2 ⟨1, rfl⟩)).mx.sl (S22.out.vars ⟨w22.heap.size, m22, A22, cp22⟩ (List.mem_iff_getElem?.2 ⟨0, rfl⟩)).mx.sl Hxy.out
      refine hh.mono ?_; clear hh; rintro e w25 ⟨rfl, hb⟩
      have S25 := Lib.hid (S22.out.later hb)
      clear q23_0 q23_1 q23_2 q24_0 q24_1 q24_2
      clear hb S22
      have q26_0 : (w25).cell? ⟨w.heap.size, 0, none⟩ = some (.int .i64 a.r) := S25.out.c0 (v := ⟨w.heap.size, a, Pa, p1⟩) (List.mem_iff_getElem?.2 ⟨4, rfl⟩)
      have q26_1 : (w25).cell? ⟨w.heap.size, 1, none⟩ = some (.int .i64 a.c) := S25.out.c1 (v := ⟨w.heap.size, a, Pa, p1⟩) (List.mem_iff_getElem?.2 ⟨4, rfl⟩)
      have q26_2 : (w25).cell? ⟨w.heap.size, 2, none⟩ = some (.slice Pa a.l.length p1) := S25.out.c2 (v := ⟨w.heap.size, a, Pa, p1⟩) (List.mem_iff_getElem?.2 ⟨4, rfl⟩)
      go_wp2_with fail
      have hh := inv_all (w.heap.size + 3 + 1) (w.heap.size + 3) a Pa p1 (w25) S25.out.inn.fld (S25.out.vars ⟨w.heap.size, a, Pa, p1⟩ (List.mem_iff_getElem?.2 ⟨4, rfl⟩)).mx
      refine hh.mono ?_; clear hh; rintro e w27 ⟨⟨m27, A27, cp27, x27, rfl, hm, hR, _⟩, hf, hr⟩
      have R5 := Lib.hid hR; clear hR
      have S27 := Lib.hid ((S25.out.call hf hr).add m27 A27 cp27 hm)
      have bz27 := hr.size
      clear q26_0 q26_1 q26_2
      clear hm hf hr S25
      rw [M3.v]
      have q28_0 : (w27.alloc (.cells #[.int .i64 m27.r, .int .i64 m27.c, .slice A27 m27.l.length cp27] 24)).cell? ⟨(w.heap.size + 1), 0, none⟩ = some (.int .i64 b.r) := S27.out.c0 (v := ⟨(w.heap.size + 1), b, Pb, p2⟩) (List.mem_iff_getElem?.2 ⟨6, rfl⟩)
      have q28_1 : (w27.alloc (.cells #[.int .i64 m27.r, .int .i64 m27.c, .slice A27 m27.l.length cp27] 24)).cell? ⟨(w.heap.size + 1), 1, none⟩ = some (.int .i64 b.c) := S27.out.c1 (v := ⟨(w.heap.size + 1), b, Pb, p2⟩) (List.mem_iff_getElem?.2 ⟨6, rfl⟩)
      have q28_2 : (w27.alloc (.cells #[.int .i64 m27.r, .int .i64 m27.c, .slice A27 m27.l.length cp27] 24)).cell? ⟨(w.heap.size + 1), 2, none⟩ = some (.slice Pb b.l.length p2) := S27.out.c2 (v := ⟨(w.heap.size + 1), b, Pb, p2⟩) (List.mem_iff_getElem?.2 ⟨6, rfl⟩)
      go_wp2_with fail
      have hh := inv_all (w.heap.size + 3 + 1) (w.heap.size + 3) b Pb p2 (w27.alloc (.cells #[.int .i64 m27.r, .int .i64 m27.c, .slice A27 m27.l.length cp27] 24)) S27.out.inn.fld (S27.out.vars ⟨(w.heap.size + 1), b, Pb, p2⟩ (List.mem_iff_getElem?.2 ⟨6, rfl⟩)).mx
      refine hh.mono ?_; clear hh; rintro e w29 ⟨⟨m29, A29, cp29, x29, rfl, hm, hR, _⟩, hf, hr⟩
      have R6 := Lib.hid hR; clear hR
      have S29 := Lib.hid ((S27.out.call hf hr).add m29 A29 cp29 hm)
      have bz29 := hr.size
      clear q28_0 q28_1 q28_2
      clear hm hf hr S27
      rw [M3.v]
      by_cases hx : x27 = 0
      · subst hx
        by_cases hx : x29 = 0
        · subst hx
          have q30_0 : (w29.alloc (.cells #[.int .i64 m29.r, .int .i64 m29.c, .slice A29 m29.l.length cp29] 24)).cell? ⟨w13.heap.size, 0, none⟩ = some (.int .i64 m13.r) := S29.out.c0 (v := ⟨w13.heap.size, m13, A13, cp13⟩) (List.mem_iff_getElem?.2 ⟨5, rfl⟩)
          have q30_1 : (w29.alloc (.cells #[.int .i64 m29.r, .int .i64 m29.c, .slice A29 m29.l.length cp29] 24)).cell? ⟨w13.heap.size, 1, none⟩ = some (.int .i64 m13.c) := S29.out.c1 (v := ⟨w13.heap.size, m13, A13, cp13⟩) (List.mem_iff_getElem?.2 ⟨5, rfl⟩)
          have q30_2 : (w29.alloc (.cells #[.int .i64 m29.r, .int .i64 m29.c, .slice A29 m29.l.length cp29] 24)).cell? ⟨w13.heap.size, 2, none⟩ = some (.slice A13 m13.l.length cp13) := S29.out.c2 (v := ⟨w13.heap.size, m13, A13, cp13⟩) (List.mem_iff_getElem?.2 ⟨5, rfl⟩)
          go_wp2_with fail
          have hh := inv_all (w.heap.size + 3 + 1) (w.heap.size + 3) m13 A13 cp13 (w29.alloc (.cells #[.int .i64 m29.r, .int .i64 m29.c, .slice A29 m29.l.length cp29] 24)) S29.out.inn.fld (S29.out.vars ⟨w13.heap.size, m13, A13, cp13⟩ (List.mem_iff_getElem?.2 ⟨5, rfl⟩)).mx
          refine hh.mono ?_; clear hh; rintro e w31 ⟨⟨m31, A31, cp31, x31, rfl, hm, hR, _⟩, hf, hr⟩
          have R7 := Lib.hid hR; clear hR
          have S31 := Lib.hid ((S29.out.call hf hr).add m31 A31 cp31 hm)
          have bz31 := hr.size
          clear q30_0 q30_1 q30_2
          clear hm hf hr S29
          rw [M3.v]
          have q32_0 : (w31.alloc (.cells #[.int .i64 m31.r, .int .i64 m31.c, .slice A31 m31.l.length cp31] 24)).cell? ⟨w29.heap.size, 0, none⟩ = some (.int .i64 m29.r) := S31.out.c0 (v := ⟨w29.heap.size, m29, A29, cp29⟩) (List.mem_iff_getElem?.2 ⟨1, rfl⟩)
          have q32_1 : (w31.alloc (.cells #[.int .i64 m31.r, .int .i64 m31.c, .slice A31 m31.l.length cp31] 24)).cell? ⟨w29.heap.size, 1, none⟩ = some (.int .i64 m29.c) := S31.out.c1 (v := ⟨w29.heap.size, m29, A29, cp29⟩) (List.mem_iff_getElem?.2 ⟨1, rfl⟩)
          have q32_2 : (w31.alloc (.cells #[.int .i64 m31.r, .int .i64 m31.c, .slice A31 m31.l.length cp31] 24)).cell? ⟨w29.heap.size, 2, none⟩ = some (.slice A29 m29.l.length cp29) := S31.out.c2 (v := ⟨w29.heap.size, m29, A29, cp29⟩) (List.mem_iff_getElem?.2 ⟨1, rfl⟩)
          have q33_0 : (w31.alloc (.cells #[.int .i64 m31.r, .int .i64 m31.c, .slice A31 m31.l.length cp31] 24)).cell? ⟨w27.heap.size, 0, none⟩ = some (.int .i64 m27.r) := S31.out.c0 (v := ⟨w27.heap.size, m27, A27, cp27⟩) (List.mem_iff_getElem?.2 ⟨2, rfl⟩)
          have q33_1 : (w31.alloc (.cells #[.int .i64 m31.r, .int .i64 m31.c, .slice A31 m31.l.length cp31] 24)).cell? ⟨w27.heap.size, 1, none⟩ = some (.int .i64 m27.c) := S31.out.c1 (v := ⟨w27.heap.size, m27, A27, cp27⟩) (List.mem_iff_getElem?.2 ⟨2, rfl⟩)
          have q33_2 : (w31.alloc (.cells #[.int .i64 m31.r, .int .i64 m31.c, .slice A31 m31.l.length cp31] 24)).cell? ⟨w27.heap.size, 2, none⟩ = some (.slice A27 m27.l.length cp27) := S31.out.c2 (v := ⟨w27.heap.size, m27, A27, cp27⟩) (List.mem_iff_getElem?.2 ⟨2, rfl⟩)
          go_wp2_with fail
          have hh := mul_all (w.heap.size + 3 + 1) (w.heap.size + 3) m29 m27 A29 A27 cp29 cp27 (w31.alloc (.cells #[.int .i64 m31.r, .int .i64 m31.c, .slice A31 m31.l.length cp31] 24)) S31.out.inn.fld (S31.out.vars ⟨w29.heap.size, m29, A29, cp29⟩ (List.mem_iff_getElem?.2 ⟨1, rfl⟩)).mx (S31.out.vars ⟨w27.heap.size, m27, A27, cp27⟩ (List.mem_iff_getElem?.2 ⟨2, rfl⟩)).mx
          refine hh.mono ?_; clear hh; rintro e w34 ⟨⟨m34, A34, cp34, x34, rfl, hm, hR, _⟩, hf, hr⟩
          have R8 := Lib.hid hR; clear hR
          have S34 := Lib.hid ((S31.out.call hf hr).add m34 A34 cp34 hm)
          have bz34 := hr.size
          clear q32_0 q32_1 q32_2 q33_0 q33_1 q33_2
          clear hm hf hr S31
          rw [M3.v]
          obtain ⟨e7, e8, hzw⟩ := chains_inv R1.out R5.out R6.out R7.out R8.out
          subst e7; subst e8
          have Hzw := Lib.hid hzw; clear hzw
          have q35_0 : (w34.alloc (.cells #[.int .i64 m34.r, .int .i64 m34.c, .slice A34 m34.l.length cp34] 24)).cell? ⟨w31.heap.size, 0, none⟩ = some (.int .i64 m31.r) := S34.out.c0 (v := ⟨w31.heap.size, m31, A31, cp31⟩) (List.mem_iff_getElem?.2 ⟨1, rfl⟩)
          have q35_1 : (w34.alloc (.cells #[.int .i64 m34.r, .int .i64 m34.c, .slice A34 m34.l.length cp34] 24)).cell? ⟨w31.heap.size, 1, none⟩ = some (.int .i64 m31.c) := S34.out.c1 (v := ⟨w31.heap.size, m31, A31, cp31⟩) (List.mem_iff_getElem?.2 ⟨1, rfl⟩)
          have q35_2 : (w34.alloc (.cells #[.int .i64 m34.r, .int .i64 m34.c, .slice A34 m34.l.length cp34] 24)).cell? ⟨w31.heap.size, 2, none⟩ = some (.slice A31 m31.l.length cp31) := S34.out.c2 (v := ⟨w31.heap.size, m31, A31, cp31⟩) (List.mem_iff_getElem?.2 ⟨1, rfl⟩)
          have q36_0 : (w34.alloc (.cells #[.int .i64 m34.r, .int .i64 m34.c, .slice A34 m34.l.length cp34] 24)).cell? ⟨w34.heap.size, 0, none⟩ = some (.int .i64 m34.r) := S34.out.c0 (v := ⟨w34.heap.size, m34, A34, cp34⟩) (List.mem_iff_getElem?.2 ⟨0, rfl⟩)
          have q36_1 : (w34.alloc (.cells #[.int .i64 m34.r, .int .i64 m34.c, .slice A34 m34.l.length cp34] 24)).cell? ⟨w34.heap.size, 1, none⟩ = some (.int .i64 m34.c) := S34.out.c1 (v := ⟨w34.heap.size, m34, A34, cp34⟩) (List.mem_iff_getElem?.2 ⟨0, rfl⟩)
          have q36_2 : (w34.alloc (.cells #[.int .i64 m34.r, .int .i64 m34.c, .slice A34 m34.l.length cp34] 24)).cell? ⟨w34.heap.size, 2, none⟩ = some (.slice A34 m34.l.length cp34) := S34.out.c2 (v := ⟨w34.heap.size, m34, A34, cp34⟩) (List.mem_iff_getElem?.2 ⟨0, rfl⟩)
          go_wp2_with fail
          have hh := same_yes m31 m34 A31 A34 cp31 cp34 (w34.alloc (.cells #[.int .i64 m34.r, .int .i64 m34.c, .slice A34 m34.l.length cp34] 24)) (S34.out.vars ⟨w31.heap.size, m31, A31, cp31⟩ (List.mem_iff_getElem?.2 ⟨1, rfl⟩)).mx.sl (S34.out.vars ⟨w34.heap.size, m34, A34, cp34⟩ (List.mem_iff_getElem?.2 ⟨0, rfl⟩)).mx.sl Hzw.out
          refine hh.mono ?_; clear hh; rintro e w37 ⟨rfl, hb⟩
          have S37 := Lib.hid (S34.out.later hb)
          clear q35_0 q35_1 q35_2 q36_0 q36_1 q36_2
          clear hb S34
          go_wp2_with fail
          refine (stands_any _).mono ?_; rintro e w38 ⟨rfl, hb⟩
          have hend := Lib.hid (S37.out.later hb).inn.below; clear hb
          go_wp2_with fail
          go_ret
          exact ⟨rfl, hend.out⟩
        · have dx : (x29 != 0) = true := by simpa using hx
          clear hx
          go_wp2_with fail
          refine (stands_any _).mono ?_; rintro e w39 ⟨rfl, hb⟩
          have hend := Lib.hid (S29.out.later hb).inn.below; clear hb
          go_wp2_with fail
          go_ret
          exact ⟨rfl, hend.out⟩
      · have dx : (x27 != 0) = true := by simpa using hx
        clear hx
        go_wp2_with fail
        refine (stands_any _).mono ?_; rintro e w40 ⟨rfl, hb⟩
        have hend := Lib.hid (S29.out.later hb).inn.below; clear hb
        go_wp2_with fail
        go_ret
        exact ⟨rfl, hend.out⟩
    · have dx : (x16 != 0) = true := by simpa using hx
      clear hx
      go_wp2_with fail
      refine (stands_any _).mono ?_; rintro e w41 ⟨rfl, hb⟩
      have hend := Lib.hid (S16.out.later hb).inn.below; clear hb
      go_wp2_with fail
      go_ret
      exact ⟨rfl, hend.out⟩
  · have dx : (x13 != 0) = true := by simpa using hx
    clear hx
    go_wp2_with fail
    refine (stands_any _).mono ?_; rintro e w42 ⟨rfl, hb⟩
    have hend := Lib.hid (S16.out.later hb).inn.below; clear hb
    go_wp2_with fail
    go_ret
    exact ⟨rfl, hend.out⟩
end Go.Proofs.Ytccnoflgbopjlaa

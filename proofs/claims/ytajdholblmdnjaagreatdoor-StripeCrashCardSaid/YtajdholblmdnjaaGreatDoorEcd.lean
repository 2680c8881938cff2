/-
  Layer 13's hurt: the drives of a list lose the sector at a place, one by dying, the next by rot (or by dying, if there is nothing to rot), and so on. Condition: the array is not nil; bounds.
-/
import Derived.Test.YtajdholblmdnjaaGreatDoorJa
set_option linter.unusedVariables false
set_option maxRecDepth 100000
set_option maxHeartbeats 3200000
namespace Go.Proofs.YtajdholblmdnjaaGreatDoor
open Go.RowKit Go.Proofs
def hurtX (p off : Int) (mask : Nat) (t : Nat) (x : Dv) : Dv := if t % 2 = 0 then x.fail else if x.rotX p off (mask : Int) = 0 then x.rot1 p off (mask : Int) else (x.rot1 p off (mask : Int)).fail
def hurtT (p off : Int) (mask : Nat) (l : List Nat) (xs : List Dv) : Nat → List Dv
 | 0 => xs
 | t + 1 => onD (hurtT p off mask l xs t) ((l.getD t 0 : Nat) : Int) (hurtX p off mask t)
theorem hurtT_len {p off : Int} {mask : Nat} {l : List Nat} {xs : List Dv} : ∀ t, (hurtT p off mask l xs t).length = xs.length
 | 0 => rfl
 | t + 1 => by rw [hurtT, onD_len, hurtT_len t]
theorem onD_twice {xs : List Dv} {d : Nat} {x : Dv} (h : xs[d]? = some x) (f g : Dv → Dv) : onD (onD xs (d : Int) f) (d : Int) g = onD xs (d : Int) (fun x => g (f x)) := by
 have hd := get_lt h
 have e : (xs.set d (f x))[d]? = some (f x) := by rw [List.getElem?_set_self hd]
 rw [onD_yes h, onD_yes e, onD_yes h, List.set_set]
theorem onD_congr {xs : List Dv} {d : Nat} {x : Dv} (h : xs[d]? = some x) {f g : Dv → Dv} (he : f x = g x) : onD xs (d : Int) f = onD xs (d : Int) g := by rw [onD_yes h, onD_yes h, he]
section
variable {Rep : World → (Nat → Prop) → Nat → Dv → Prop}
theorem hurt_any (DK : DrvK Rep) {w0 w : World} {S : Nat → Prop} {A : Nat} {xs : List Dv} (h : La Rep w0 w S A xs) (h0 : 0 < xs.length) (A2 : Option Addr) (c2 : Nat) (l : List Nat) (hl : Sl w 1 A2 l.length c2 (ncells l)) (hd : ∀ d ∈ l, d < xs.length) (hlS : ∀ b o, 0 < l.length → A2 = some ⟨b, o, none⟩ → ¬ S b) (ll : l.length ≤ 1000)
  (p off : Int) (mask : Nat) (hp1 : -9223372036854775808 ≤ p) (hp2 : p < 9223372036854775808) (ho1 : -9223372036854775808 ≤ off) (ho2 : off < 9223372036854775808) (hm : mask < 4294967296) :
  Calls Tryz.prog 13 #[.pointer (some ⟨A, 0, none⟩), .slice A2 l.length c2, .int .i64 p, .int .i64 off, .int .u32 (mask : Int)] w fun e w' => e = .returned (.tuple #[]) ∧ ∃ S', La Rep w0 w' S' A (hurtT p (max 0 (min off 60)) (max 1 mask) l xs l.length) ∧ Nxt S S' w w' := by
 obtain ⟨q, hq⟩ : ∃ q, q = l.length := ⟨_, rfl⟩
 rw [← hq] at hl hlS ll ⊢
 obtain ⟨o, ho⟩ : ∃ o, o = max 0 (min off 60) := ⟨_, rfl⟩
 obtain ⟨mk, hmk⟩ : ∃ mk, mk = max 1 mask := ⟨_, rfl⟩
 rw [← ho, ← hmk]
 have Ho := Lib.hid ho
 have Hmk := Lib.hid hmk
 have HQ := Lib.hid hq
 have HL := Lib.hid hl
 have HLS := Lib.hid hlS
 have HD := Lib.hid hd
 have LA := Lib.hid h
 have H0 := Lib.hid h0
 clear h hl hlS hd hq h0 ho hmk
 go_enter Tryz.func13, Tryz.ntmps13
 go_wp2_with fail
 go_loopw [10] (fun i wr => ∃ (t : Nat) (S' : Nat → Prop), t ≤ q ∧ i = .int .i64 (t : Int) ∧ La Rep w0 wr S' A (hurtT p o mk l xs t) ∧ Nxt S S' w wr) (fun i _ => q - (intOf i).toNat)
 case atStart => exact ⟨0, S, by omega, rfl, LA.out, Nxt.refl _ _⟩
 case round =>
  obtain ⟨t, S', ht, rfl, hL, hN⟩ := hrel
  have L1 := Lib.hid hL
  have N1 := Lib.hid hN
  clear hL hN
  by_cases hlt : t < q
  ·have hti : (t : Int) < (q : Int) := by omega
   have htl : t < l.length := by rw [← HQ.out]; exact hlt
   obtain ⟨d, hdd⟩ : ∃ d, d = l[t]'htl := ⟨_, rfl⟩
   have hdx : d < xs.length := by rw [hdd]; exact HD.out _ (List.getElem_mem _)
   have hsl := HL.out.fr N1.out.1 (fun b o hn hA hs => HLS.out b o hn hA hs)
   obtain ⟨b2, o2, rfl, hc⟩ := hsl.at_ hlt
   have hcell := hc t (.int .i64 (d : Int)) (by rw [ncells_get l t htl, hdd])
   have hlen := hurtT_len (p := p) (off := o) (mask := mk) (l := l) (xs := xs) t
   obtain ⟨x, hx⟩ : ∃ x, (hurtT p o mk l xs t)[d]? = some x := ⟨_, List.getElem?_eq_getElem (by rw [hlen]; exact hdx)⟩
   have hnx : hurtT p o mk l xs (t + 1) = onD (hurtT p o mk l xs t) (d : Int) (hurtX p o mk t) := by
    rw [hurtT, List.getD_eq_getElem?_getD, List.getElem?_eq_getElem htl, Option.getD_some, ← hdd]
   have Hlen := Lib.hid hlen
   have Hx := Lib.hid hx
   have Hnx := Lib.hid hnx
   have Hdd := Lib.hid hdd
   clear hc hsl hx hlen hnx hdd
   by_cases hev : t % 2 = 0
   ·have hevi : (t : Int) % 2 = 0 := by omega
    have Hev := Lib.hid hev
    clear hev
    go_wp2_with fail
    refine (arfail_any DK L1.out.ap (by rw [Hlen.out]; exact H0.out) (d : Int)).mono ?_; rintro e w2 ⟨rfl, hm2⟩
    obtain ⟨S2, hL2, hN2⟩ := L1.out.mut hm2
    rw [onD_congr Hx.out (show (fun x => Dv.fail x) x = hurtX p o mk t x by rw [hurtX, if_pos Hev.out]), ← Hnx.out] at hL2
    have L2 := Lib.hid hL2
    have N2 := Lib.hid (N1.out.trans hN2)
    clear hm2 hL2 hN2 hcell
    go_wp2_with fail
    go_roundw
    case rel => exact ⟨t + 1, S2, by omega, by go_num, L2.out, N2.out⟩
    case measure => simp [intOf]; omega
   ·have hevi : ¬ (t : Int) % 2 = 0 := by omega
    have Hev := Lib.hid hev
    have hrot : ∀ z zm : Int, z = o → zm = (mk : Int) → Calls Tryz.prog 36 #[.pointer (some ⟨A, 0, none⟩), .int .i64 (d : Int), .int .i64 p, .int .i64 z, .int .u32 zm] wr fun e w' => e = .returned (.int .i64 (tellD (hurtT p o mk l xs t) (d : Int) (fun x => x.rotX p o (mk : Int)) 2)) ∧ MutA Rep S' A (onD (hurtT p o mk l xs t) (d : Int) (fun x => x.rot1 p o (mk : Int))) wr w' := by
     rintro z zm rfl rfl
     exact arrot_any DK L1.out.ap (by rw [Hlen.out]; exact H0.out) (d : Int) p z mk hp1 hp2 (by have := Ho.out; omega) (by have := Ho.out; omega) (by have := Hmk.out; omega)
    rw [tellD_yes Hx.out] at hrot
    obtain ⟨r, hr⟩ : ∃ r, r = x.rotX p o (mk : Int) := ⟨_, rfl⟩
    rw [← hr] at hrot
    have Hr := Lib.hid hr
    have Hrot := Lib.hid hrot
    clear hr hrot hev
    by_cases hr0 : r = 0
    ·subst hr0
     go_wp2_with fail
     all_goals
      refine (Hrot.out _ _ (by have := Ho.out; omega) (by have := Hmk.out; omega)).mono ?_
      rintro e w2 ⟨rfl, hm2⟩
      obtain ⟨S2, hL2, hN2⟩ := L1.out.mut hm2
      rw [onD_congr (f := fun x => Dv.rot1 x p o (mk : Int)) (g := hurtX p o mk t) Hx.out (show Dv.rot1 x p o (mk : Int) = hurtX p o mk t x by rw [hurtX, if_neg Hev.out, if_pos Hr.out.symm]), ← Hnx.out] at hL2
      have L2 := Lib.hid hL2
      have N2 := Lib.hid (N1.out.trans hN2)
      clear hm2 hL2 hN2 hcell
      go_wp2_with fail
      go_roundw
      case rel => exact ⟨t + 1, S2, by omega, by go_num, L2.out, N2.out⟩
      case measure => simp [intOf]; omega
    ·go_wp2_with fail
     all_goals
      refine (Hrot.out _ _ (by have := Ho.out; omega) (by have := Hmk.out; omega)).mono ?_
      rintro e w2 ⟨rfl, hm2⟩
      obtain ⟨S2, hL2, hN2⟩ := L1.out.mut hm2
      have L2 := Lib.hid hL2
      have N2 := Lib.hid (N1.out.trans hN2)
      obtain ⟨b3, o3, hA3, hc3⟩ := (HL.out.fr N2.out.1 (fun b o hn hA hs => HLS.out b o hn hA hs)).at_ hlt
      have hcell3 := hc3 t (.int .i64 (d : Int)) (by rw [ncells_get l t htl, ← Hdd.out])
      injection hA3 with hA3
      injection hA3 with hb3 ho3
      subst hb3 ho3
      have hrn : (r != 0) = true := by simp [hr0]
      clear hm2 hL2 hN2 hcell hc3
      go_wp2_with fail
      refine (arfail_any DK L2.out.ap (by rw [onD_len, Hlen.out]; exact H0.out) (d : Int)).mono ?_; rintro e w3 ⟨rfl, hm3⟩
      obtain ⟨S3, hL3, hN3⟩ := L2.out.mut hm3
      rw [onD_twice Hx.out, onD_congr (f := fun x => Dv.fail (Dv.rot1 x p o (mk : Int))) (g := hurtX p o mk t) Hx.out (show Dv.fail (Dv.rot1 x p o (mk : Int)) = hurtX p o mk t x by rw [hurtX, if_neg Hev.out, if_neg (by rw [← Hr.out]; exact hr0)]), ← Hnx.out] at hL3
      have L3 := Lib.hid hL3
      have N3 := Lib.hid (N2.out.trans hN3)
      clear hm3 hL3 hN3 hcell3
      go_wp2_with fail
      go_roundw
      case rel => exact ⟨t + 1, S3, by omega, by go_num, L3.out, N3.out⟩
      case measure => simp [intOf]; omega
  ·have hti : ¬ (t : Int) < (q : Int) := by omega
   obtain rfl : t = q := by omega
   go_wp2_with fail
   go_end0
   exact ⟨rfl, S', L1.out, N1.out⟩
end
end Go.Proofs.YtajdholblmdnjaaGreatDoor

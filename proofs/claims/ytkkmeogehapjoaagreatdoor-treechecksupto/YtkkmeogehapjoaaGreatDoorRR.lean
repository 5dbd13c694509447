/- Kids of a function and of a block: the document's own. Kids of a block: the document's own. -/
import Derived.Test.YtkkmeogehapjoaaGreatDoorR2
namespace Go.Proofs.YtkkmeogehapjoaaGreatDoor
section
open Go.RowKit Go.Shelf
def fnG (v : Int) (kk : List Int) : Bool := if kk.length < 2 then false else decide (v = (kk.length : Int) - 2) && (isB (kk.getD (kk.length - 2) 0) 84 && (isB (kk.getD (kk.length - 1) 0) 66 && (kk.take (kk.length - 2)).all fun z => isB z 77))
def bkG (v : Int) (kk : List Int) : Bool := if v = 1 then (if kk.length = 0 then false else isB (kk.getD (kk.length - 1) 0) 69 && (kk.take (kk.length - 1)).all fun z => isB z 83) else kk.all fun z => isB z 83
theorem take_all_step {p : Int → Bool} {l : List Int} {q n : Nat} {y : Int} (hq : q < n) (hy : l[q]? = some y) (h : ((l.take n).take q).all p = true) : ((l.take n).take (q + 1)).all p = p y := by
  rw [List.take_add_one, List.getElem?_take_of_lt hq, hy, List.all_append, h, Bool.true_and]
  simp
theorem take_all_no {p : Int → Bool} {l : List Int} {q n : Nat} {y : Int} (hq : q < n) (hy : l[q]? = some y) (h : p y = false) : (l.take n).all p = false := by
  rw [← Bool.not_eq_true, List.all_eq_true]
  intro hh
  have t := hh y (List.mem_of_getElem? (i := q) (by rw [List.getElem?_take_of_lt hq]; exact hy))
  rw [h] at t
  cases t
set_option maxRecDepth 100000 in
set_option maxHeartbeats 4000000 in
theorem fits_fn (l : List Nd) (x : Nd) (ao : Option Addr) (c : Nat) (w : World) (hl : NdS w ao c l) (hk : IsA w x.ka x.kc x.ks) (hi : Inn l x.ks) : Calls Tryz.prog 78 #[.agg #[.slice ao l.length c], nwv x, .string ⟨#[102, 110]⟩] w fun e w' => e = .returned (.bool (fnG x.v (x.ks.map (kdK l)))) ∧ Below w.heap.size w w' := by
  have HK : Hid (∀ W (i : Nat) y, (x.ks.map (kdK l))[i]? = some y → Below w.heap.size w W → Calls Tryz.prog 103 #[.agg #[.slice ao l.length c], .agg #[.int .i64 x.k, .string x.nm, .int .i64 x.v, .slice x.ka x.ks.length x.kc, .int .i64 x.fr, .int .i64 x.en], .int .i64 i] W fun e w' => e = .returned (.int .i64 y) ∧ Below W.heap.size W w') := fun W i y hy hW => by
    rw [List.getElem?_map] at hy
    obtain ⟨z, hz, rfl⟩ := Option.map_eq_some_iff.1 hy
    exact kid103 l x ao c i z W (hl.below hW) (hk.below hW) hi hz
  have H84 : Hid (∀ W k, Calls Tryz.prog 102 #[.int .i64 k, .int .u8 84] W fun e w' => e = .returned (.bool (isB k 84)) ∧ w' = W) := fun W k => is102 k 84 W
  have H66 : Hid (∀ W k, Calls Tryz.prog 102 #[.int .i64 k, .int .u8 66] W fun e w' => e = .returned (.bool (isB k 66)) ∧ w' = W) := fun W k => is102 k 66 W
  have H77 : Hid (∀ W k, Calls Tryz.prog 102 #[.int .i64 k, .int .u8 77] W fun e w' => e = .returned (.bool (isB k 77)) ∧ w' = W) := fun W k => is102 k 77 W
  have hm : (x.ks.map (kdK l)).length = x.ks.length := by simp
  have hmx : x.ks.length ≤ 9223372036854775807 := Nat.le_trans hk.1 hk.2.1
  unfold nwv fnG
  rw [hm]
  generalize x.ks.map (kdK l) = kk at *
  obtain ⟨xk, xn, xv, xa, xc, xs, xf, xe⟩ := x
  simp only at *
  generalize xs.length = m at *
  generalize l.length = n at *
  have HF : Hid (kk.length = m) := hm
  clear hl hk hi hm
  have HB : Hid (∀ o o', Below w.heap.size w ((w.alloc o).alloc o')) := fun o o' => ((Below.refl _ w).alloc (Nat.le_refl _) o).alloc (by simp) o'
  by_cases hm2 : m < 2
  · rw [if_pos hm2]
    go_enter Tryz.func78, Tryz.ntmps78
    go_wp2
    go_ret
    exact ⟨rfl, HB.out _ _⟩
  rw [if_neg hm2]
  obtain ⟨m2, hm2e⟩ : ∃ m2, m2 = m - 2 := ⟨_, rfl⟩
  obtain ⟨m1, hm1e⟩ : ∃ m1, m1 = m - 1 := ⟨_, rfl⟩
  have hw2 : IntKind.i64.wrap ((m : Int) - 2) = (m2 : Int) := by simp [IntKind.wrap, IntKind.bits, IntKind.signed]; omega
  have hw1 : IntKind.i64.wrap ((m : Int) - 1) = (m1 : Int) := by simp [IntKind.wrap, IntKind.bits, IntKind.signed]; omega
  have hv2 : (m : Int) - 2 = (m2 : Int) := by omega
  have hv1 : (m : Int) - 1 = (m1 : Int) := by omega
  rw [hv2, ← hm2e, ← hm1e]
  have HM : Hid (m2 = m - 2 ∧ m1 = m - 1 ∧ 2 ≤ m) := ⟨hm2e, hm1e, by omega⟩
  have hmi : ¬ (m : Int) < 2 := by omega
  clear hm2e hm1e hm2
  by_cases hv : ¬ xv = (m2 : Int)
  · have hvb : decide (xv = (m2 : Int)) = false := decide_eq_false hv
    have hvn : (xv != (m2 : Int)) = true := by simpa using hv
    rw [hvb, Bool.false_and]
    go_enter Tryz.func78, Tryz.ntmps78
    go_wp2
    go_ret
    exact ⟨rfl, HB.out _ _⟩
  have hv' : xv = (m2 : Int) := Classical.not_not.1 hv
  have hvb : decide (xv = (m2 : Int)) = true := decide_eq_true hv'
  rw [hvb, Bool.true_and]
  clear hv
  subst hv'
  clear hvb
  obtain ⟨y2, hy2⟩ : ∃ y, kk[m2]? = some y := ⟨_, List.getElem?_eq_getElem (by have := HF.out; have := HM.out; omega)⟩
  obtain ⟨y1, hy1⟩ : ∃ y, kk[m1]? = some y := ⟨_, List.getElem?_eq_getElem (by have := HF.out; have := HM.out; omega)⟩
  have e2 : kk.getD m2 0 = y2 := by simp [List.getD, hy2]
  have e1 : kk.getD m1 0 = y1 := by simp [List.getD, hy1]
  rw [e2, e1]
  have hX0 := fx_new w (.slice ao n c) (.slice xa m xc) xk xn (m2 : Int) xf xe
  have hbw := HB.out (.cells #[.slice ao n c] 24) (.cells #[.int .i64 xk, .string xn, .int .i64 (m2 : Int), .slice xa m xc, .int .i64 xf, .int .i64 xe] 53)
  have hzz : w.heap.size + 1 < ((w.alloc (.cells #[.slice ao n c] 24)).alloc (.cells #[.int .i64 xk, .string xn, .int .i64 (m2 : Int), .slice xa m xc, .int .i64 xf, .int .i64 xe] 53)).heap.size := by simp
  obtain ⟨W0, hW0⟩ : ∃ W, W = (w.alloc (.cells #[.slice ao n c] 24)).alloc (.cells #[.int .i64 xk, .string xn, .int .i64 (m2 : Int), .slice xa m xc, .int .i64 xf, .int .i64 xe] 53) := ⟨_, rfl⟩
  rw [← hW0] at hX0 hbw hzz
  have HX : Hid (∀ W, Below W0.heap.size W0 W → Fx W0 w.heap.size (.slice ao n c) (.slice xa m xc) xk xn (m2 : Int) xf xe W) := fun W hW => Fx.go hW hzz hX0
  have HBW : Hid (Below w.heap.size w W0) := hbw
  have HC : Hid (∀ W (i : Nat) y, kk[i]? = some y → Below W0.heap.size W0 W → Calls Tryz.prog 103 #[.agg #[.slice ao n c], .agg #[.int .i64 xk, .string xn, .int .i64 (m2 : Int), .slice xa m xc, .int .i64 xf, .int .i64 xe], .int .i64 i] W fun e w' => e = .returned (.int .i64 y) ∧ Below W0.heap.size W0 w') := fun W i y hy hW => (HK.out W i y hy (hbw.trans (hW.mono hbw.size))).mono fun _ _ ⟨he, hb⟩ => ⟨he, hW.trans (hb.mono hW.size)⟩
  have HY : Hid (kk[m2]? = some y2 ∧ kk[m1]? = some y1) := ⟨hy2, hy1⟩
  have HW0 : Hid (Below W0.heap.size W0 ((w.alloc (.cells #[.slice ao n c] 24)).alloc (.cells #[.int .i64 xk, .string xn, .int .i64 (m2 : Int), .slice xa m xc, .int .i64 xf, .int .i64 xe] 53))) := by rw [← hW0]; exact Below.refl _ _
  clear hX0 hbw HK hy2 hy1 e2 e1 hW0 hzz
  have HI84 : Hid (∀ W, Calls Tryz.prog 102 #[.int .i64 y2, .int .u8 84] W fun e w' => e = .returned (.bool (isB y2 84)) ∧ w' = W) := fun W => H84.out W y2
  have HI66 : Hid (∀ W, Calls Tryz.prog 102 #[.int .i64 y1, .int .u8 66] W fun e w' => e = .returned (.bool (isB y1 66)) ∧ w' = W) := fun W => H66.out W y1
  generalize isB y2 84 = b2 at *
  generalize isB y1 66 = b1 at *
  cases b2
  · rw [Bool.false_and]
    go_enter Tryz.func78, Tryz.ntmps78
    go_wp2_with fail
    refine (HC.out _ m2 y2 HY.out.1 HW0.out).mono ?_
    rintro e w1 ⟨rfl, hb1⟩
    have HB1 : Hid (Below W0.heap.size W0 w1) := hb1
    clear hb1
    go_wp2_with fail
    refine (HI84.out _).mono ?_
    rintro e w2 ⟨rfl, rfl⟩
    go_wp2
    go_ret
    exact ⟨rfl, HBW.out.trans (HB1.out.mono HBW.out.size)⟩
  rw [Bool.true_and]
  cases b1
  · rw [Bool.false_and]
    go_enter Tryz.func78, Tryz.ntmps78
    go_wp2_with fail
    refine (HC.out _ m2 y2 HY.out.1 HW0.out).mono ?_
    rintro e w1 ⟨rfl, hb1⟩
    obtain ⟨_, t0, n0, n1, n2, n3, n4, n5⟩ := HX.out w1 hb1
    have HB1 : Hid (Below W0.heap.size W0 w1) := hb1
    clear hb1
    go_wp2_with fail
    refine (HI84.out _).mono ?_
    rintro e w2 ⟨rfl, rfl⟩
    go_wp2_with fail
    refine (HC.out _ m1 y1 HY.out.2 HB1.out).mono ?_
    rintro e w3 ⟨rfl, hb3⟩
    have HB3 : Hid (Below W0.heap.size W0 w3) := hb3
    clear hb3
    go_wp2_with fail
    refine (HI66.out _).mono ?_
    rintro e w4 ⟨rfl, rfl⟩
    go_wp2
    go_ret
    exact ⟨rfl, HBW.out.trans (HB3.out.mono HBW.out.size)⟩
  rw [Bool.true_and]
  obtain ⟨R, hR⟩ : ∃ R, R = (kk.take m2).all fun z => isB z 77 := ⟨_, rfl⟩
  rw [← hR]
  have HR : Hid (R = (kk.take m2).all fun z => isB z 77) := hR
  clear hR
  go_enter Tryz.func78, Tryz.ntmps78
  go_wp2_with fail
  refine (HC.out _ m2 y2 HY.out.1 HW0.out).mono ?_
  rintro e w1 ⟨rfl, hb1⟩
  obtain ⟨_, t0, n0, n1, n2, n3, n4, n5⟩ := HX.out w1 hb1
  have HB1 : Hid (Below W0.heap.size W0 w1) := hb1
  clear hb1
  go_wp2_with fail
  refine (HI84.out _).mono ?_
  rintro e w2 ⟨rfl, rfl⟩
  go_wp2_with fail
  refine (HC.out _ m1 y1 HY.out.2 HB1.out).mono ?_
  rintro e w3 ⟨rfl, hb3⟩
  have HB3 : Hid (Below W0.heap.size W0 w3) := hb3
  clear hb3 t0 n0 n1 n2 n3 n4 n5
  go_wp2_with fail
  refine (HI66.out _).mono ?_
  rintro e w4 ⟨rfl, rfl⟩
  go_wp2
  go_loopw [8] (fun i wx => ∃ q : Nat, q ≤ m2 ∧ i = .int .i64 q ∧ Below W0.heap.size W0 wx ∧ ((kk.take m2).take q).all (fun z => isB z 77) = true) (fun i _ => m2 - (intOf i).toNat)
  case atStart => exact ⟨0, Nat.zero_le _, rfl, HB3.out, rfl⟩
  case round =>
    obtain ⟨q, hq, rfl, hB, hA⟩ := hrel
    have HBq : Hid (Below W0.heap.size W0 wr) := hB
    by_cases hlt : q < m2
    · obtain ⟨_, t0, n0, n1, n2, n3, n4, n5⟩ := HX.out wr hB
      obtain ⟨y, hy⟩ : ∃ y, kk[q]? = some y := ⟨_, List.getElem?_eq_getElem (by have := HF.out; have := HM.out; omega)⟩
      have HCq : Hid (∀ W, Below W0.heap.size W0 W → Calls Tryz.prog 103 #[.agg #[.slice ao n c], .agg #[.int .i64 xk, .string xn, .int .i64 (m2 : Int), .slice xa m xc, .int .i64 xf, .int .i64 xe], .int .i64 q] W fun e w' => e = .returned (.int .i64 y) ∧ Below W0.heap.size W0 w') := fun W hW => HC.out W q y hy hW
      have HV : Hid (((kk.take m2).take (q + 1)).all (fun z => isB z 77) = isB y 77 ∧ (isB y 77 = false → R = false)) := ⟨take_all_step hlt hy hA, fun h => by rw [HR.out]; exact take_all_no hlt hy h⟩
      have HIq : Hid (∀ W, Calls Tryz.prog 102 #[.int .i64 y, .int .u8 77] W fun e w' => e = .returned (.bool (isB y 77)) ∧ w' = W) := fun W => H77.out W y
      clear hy hA hB
      generalize isB y 77 = b at *
      have hm2b : m2 < 9223372036854775807 := by have := HM.out; omega
      cases b
      · obtain rfl := HV.out.2 rfl
        go_wp2_with fail
        refine (HCq.out _ HBq.out).mono ?_
        rintro e w5 ⟨rfl, hb5⟩
        have HB5 : Hid (Below W0.heap.size W0 w5) := hb5
        clear hb5
        go_wp2_with fail
        refine (HIq.out _).mono ?_
        rintro e w6 ⟨rfl, rfl⟩
        go_wp2
        go_ret
        exact ⟨rfl, HBW.out.trans (HB5.out.mono HBW.out.size)⟩
      · go_wp2_with fail
        refine (HCq.out _ HBq.out).mono ?_
        rintro e w5 ⟨rfl, hb5⟩
        have HB5 : Hid (Below W0.heap.size W0 w5) := hb5
        clear hb5
        go_wp2_with fail
        refine (HIq.out _).mono ?_
        rintro e w6 ⟨rfl, rfl⟩
        go_wp2
        exact ⟨⟨q + 1, by omega, by go_num, HB5.out, HV.out.1⟩, by simp [intOf]; omega⟩
    · obtain rfl : q = m2 := by omega
      have hta : (kk.take q).take q = kk.take q := List.take_of_length_le (by simp; omega)
      rw [hta] at hA
      obtain rfl : R = true := by rw [HR.out, hA]
      clear hta hA hB
      go_wp2
      go_ret
      exact ⟨rfl, HBW.out.trans (HBq.out.mono HBW.out.size)⟩
end
section
open Go.RowKit Go.Shelf
set_option maxRecDepth 100000 in
set_option maxHeartbeats 4000000 in
theorem fits_blk0 (l : List Nd) (x : Nd) (ao : Option Addr) (c : Nat) (w : World) (hl : NdS w ao c l) (hk : IsA w x.ka x.kc x.ks) (hi : Inn l x.ks) (hv : x.v = 0) : Calls Tryz.prog 78 #[.agg #[.slice ao l.length c], nwv x, .string ⟨#[98, 108, 111, 99, 107]⟩] w fun e w' => e = .returned (.bool (bkG x.v (x.ks.map (kdK l)))) ∧ Below w.heap.size w w' := by
  have HK : Hid (∀ W (i : Nat) y, (x.ks.map (kdK l))[i]? = some y → Below w.heap.size w W → Calls Tryz.prog 103 #[.agg #[.slice ao l.length c], .agg #[.int .i64 x.k, .string x.nm, .int .i64 x.v, .slice x.ka x.ks.length x.kc, .int .i64 x.fr, .int .i64 x.en], .int .i64 i] W fun e w' => e = .returned (.int .i64 y) ∧ Below W.heap.size W w') := fun W i y hy hW => by
    rw [List.getElem?_map] at hy
    obtain ⟨z, hz, rfl⟩ := Option.map_eq_some_iff.1 hy
    exact kid103 l x ao c i z W (hl.below hW) (hk.below hW) hi hz
  have H69 : Hid (∀ W k, Calls Tryz.prog 102 #[.int .i64 k, .int .u8 69] W fun e w' => e = .returned (.bool (isB k 69)) ∧ w' = W) := fun W k => is102 k 69 W
  have H83 : Hid (∀ W k, Calls Tryz.prog 102 #[.int .i64 k, .int .u8 83] W fun e w' => e = .returned (.bool (isB k 83)) ∧ w' = W) := fun W k => is102 k 83 W
  have hm : (x.ks.map (kdK l)).length = x.ks.length := by simp
  have hmx : x.ks.length ≤ 9223372036854775807 := Nat.le_trans hk.1 hk.2.1
  unfold nwv bkG
  rw [hm]
  generalize x.ks.map (kdK l) = kk at *
  obtain ⟨xk, xn, xv, xa, xc, xs, xf, xe⟩ := x
  simp only at *
  subst hv
  generalize xs.length = m at *
  generalize l.length = n at *
  have HF : Hid (kk.length = m) := hm
  clear hl hk hi hm
  have HB : Hid (∀ o o', Below w.heap.size w ((w.alloc o).alloc o')) := fun o o' => ((Below.refl _ w).alloc (Nat.le_refl _) o).alloc (by simp) o'
  rw [if_neg (by decide)]
  have hX0 := fx_new w (.slice ao n c) (.slice xa m xc) xk xn 0 xf xe
  have hbw := HB.out (.cells #[.slice ao n c] 24) (.cells #[.int .i64 xk, .string xn, .int .i64 0, .slice xa m xc, .int .i64 xf, .int .i64 xe] 53)
  have hzz : w.heap.size + 1 < ((w.alloc (.cells #[.slice ao n c] 24)).alloc (.cells #[.int .i64 xk, .string xn, .int .i64 0, .slice xa m xc, .int .i64 xf, .int .i64 xe] 53)).heap.size := by simp
  obtain ⟨W0, hW0⟩ : ∃ W, W = (w.alloc (.cells #[.slice ao n c] 24)).alloc (.cells #[.int .i64 xk, .string xn, .int .i64 0, .slice xa m xc, .int .i64 xf, .int .i64 xe] 53) := ⟨_, rfl⟩
  rw [← hW0] at hX0 hbw hzz
  have HX : Hid (∀ W, Below W0.heap.size W0 W → Fx W0 w.heap.size (.slice ao n c) (.slice xa m xc) xk xn 0 xf xe W) := fun W hW => Fx.go hW hzz hX0
  have HBW : Hid (Below w.heap.size w W0) := hbw
  have HC : Hid (∀ W (i : Nat) y, kk[i]? = some y → Below W0.heap.size W0 W → Calls Tryz.prog 103 #[.agg #[.slice ao n c], .agg #[.int .i64 xk, .string xn, .int .i64 0, .slice xa m xc, .int .i64 xf, .int .i64 xe], .int .i64 i] W fun e w' => e = .returned (.int .i64 y) ∧ Below W0.heap.size W0 w') := fun W i y hy hW => (HK.out W i y hy (hbw.trans (hW.mono hbw.size))).mono fun _ _ ⟨he, hb⟩ => ⟨he, hW.trans (hb.mono hW.size)⟩
  have HW0 : Hid (Below W0.heap.size W0 ((w.alloc (.cells #[.slice ao n c] 24)).alloc (.cells #[.int .i64 xk, .string xn, .int .i64 0, .slice xa m xc, .int .i64 xf, .int .i64 xe] 53))) := by rw [← hW0]; exact Below.refl _ _
  clear hX0 hbw HK hW0 hzz
  have HM : Hid (m ≤ 9223372036854775807) := hmx
  obtain ⟨R, hR⟩ : ∃ R, R = (kk.take m).all fun z => isB z 83 := ⟨_, rfl⟩
  have hR' : (kk.all fun z => isB z 83) = R := by rw [hR, List.take_of_length_le (by have := HF.out; omega)]
  rw [hR']
  have HR : Hid (R = (kk.take m).all fun z => isB z 83) := hR
  clear hR hR'
  go_enter Tryz.func78, Tryz.ntmps78
  go_wp2
  go_loopw [9] (fun i wx => ∃ q : Nat, q ≤ m ∧ i = .int .i64 q ∧ Below W0.heap.size W0 wx ∧ ((kk.take m).take q).all (fun z => isB z 83) = true) (fun i _ => m - (intOf i).toNat)
  case atStart => exact ⟨0, Nat.zero_le _, rfl, HW0.out, rfl⟩
  case round =>
    obtain ⟨q, hq, rfl, hB, hA⟩ := hrel
    have HBq : Hid (Below W0.heap.size W0 wr) := hB
    obtain ⟨_, t0, n0, n1, n2, n3, n4, n5⟩ := HX.out wr hB
    by_cases hlt : q < m
    · obtain ⟨y, hy⟩ : ∃ y, kk[q]? = some y := ⟨_, List.getElem?_eq_getElem (by have := HF.out; have := HM.out; omega)⟩
      have HCq : Hid (∀ W, Below W0.heap.size W0 W → Calls Tryz.prog 103 #[.agg #[.slice ao n c], .agg #[.int .i64 xk, .string xn, .int .i64 0, .slice xa m xc, .int .i64 xf, .int .i64 xe], .int .i64 q] W fun e w' => e = .returned (.int .i64 y) ∧ Below W0.heap.size W0 w') := fun W hW => HC.out W q y hy hW
      have HV : Hid (((kk.take m).take (q + 1)).all (fun z => isB z 83) = isB y 83 ∧ (isB y 83 = false → R = false)) := ⟨take_all_step hlt hy hA, fun h => by rw [HR.out]; exact take_all_no hlt hy h⟩
      have HIq : Hid (∀ W, Calls Tryz.prog 102 #[.int .i64 y, .int .u8 83] W fun e w' => e = .returned (.bool (isB y 83)) ∧ w' = W) := fun W => H83.out W y
      clear hy hA hB
      generalize isB y 83 = b at *
      have hq9 : q < 9223372036854775807 := by have := HM.out; omega
      cases b
      · obtain rfl := HV.out.2 rfl
        go_wp2_with fail
        refine (HCq.out _ HBq.out).mono ?_
        rintro e w5 ⟨rfl, hb5⟩
        have HB5 : Hid (Below W0.heap.size W0 w5) := hb5
        clear hb5
        go_wp2_with fail
        refine (HIq.out _).mono ?_
        rintro e w6 ⟨rfl, rfl⟩
        go_wp2
        go_ret
        exact ⟨rfl, HBW.out.trans (HB5.out.mono HBW.out.size)⟩
      · go_wp2_with fail
        refine (HCq.out _ HBq.out).mono ?_
        rintro e w5 ⟨rfl, hb5⟩
        have HB5 : Hid (Below W0.heap.size W0 w5) := hb5
        clear hb5
        go_wp2_with fail
        refine (HIq.out _).mono ?_
        rintro e w6 ⟨rfl, rfl⟩
        go_wp2
        exact ⟨⟨q + 1, by omega, by go_num, HB5.out, HV.out.1⟩, by simp [intOf]; omega⟩
    · obtain rfl : q = m := by omega
      have hta : (kk.take q).take q = kk.take q := List.take_of_length_le (by simp; omega)
      rw [hta] at hA
      obtain rfl : R = true := by rw [HR.out, hA]
      clear hta hA hB
      go_wp2
      go_ret
      exact ⟨rfl, HBW.out.trans (HBq.out.mono HBW.out.size)⟩
set_option maxRecDepth 100000 in
set_option maxHeartbeats 4000000 in
theorem fits_blk1 (l : List Nd) (x : Nd) (ao : Option Addr) (c : Nat) (w : World) (hl : NdS w ao c l) (hk : IsA w x.ka x.kc x.ks) (hi : Inn l x.ks) (hv : x.v = 1) : Calls Tryz.prog 78 #[.agg #[.slice ao l.length c], nwv x, .string ⟨#[98, 108, 111, 99, 107]⟩] w fun e w' => e = .returned (.bool (bkG x.v (x.ks.map (kdK l)))) ∧ Below w.heap.size w w' := by
  have HK : Hid (∀ W (i : Nat) y, (x.ks.map (kdK l))[i]? = some y → Below w.heap.size w W → Calls Tryz.prog 103 #[.agg #[.slice ao l.length c], .agg #[.int .i64 x.k, .string x.nm, .int .i64 x.v, .slice x.ka x.ks.length x.kc, .int .i64 x.fr, .int .i64 x.en], .int .i64 i] W fun e w' => e = .returned (.int .i64 y) ∧ Below W.heap.size W w') := fun W i y hy hW => by
    rw [List.getElem?_map] at hy
    obtain ⟨z, hz, rfl⟩ := Option.map_eq_some_iff.1 hy
    exact kid103 l x ao c i z W (hl.below hW) (hk.below hW) hi hz
  have H69 : Hid (∀ W k, Calls Tryz.prog 102 #[.int .i64 k, .int .u8 69] W fun e w' => e = .returned (.bool (isB k 69)) ∧ w' = W) := fun W k => is102 k 69 W
  have H83 : Hid (∀ W k, Calls Tryz.prog 102 #[.int .i64 k, .int .u8 83] W fun e w' => e = .returned (.bool (isB k 83)) ∧ w' = W) := fun W k => is102 k 83 W
  have hm : (x.ks.map (kdK l)).length = x.ks.length := by simp
  have hmx : x.ks.length ≤ 9223372036854775807 := Nat.le_trans hk.1 hk.2.1
  unfold nwv bkG
  rw [hm]
  generalize x.ks.map (kdK l) = kk at *
  obtain ⟨xk, xn, xv, xa, xc, xs, xf, xe⟩ := x
  simp only at *
  subst hv
  generalize xs.length = m at *
  generalize l.length = n at *
  have HF : Hid (kk.length = m) := hm
  clear hl hk hi hm
  have HB : Hid (∀ o o', Below w.heap.size w ((w.alloc o).alloc o')) := fun o o' => ((Below.refl _ w).alloc (Nat.le_refl _) o).alloc (by simp) o'
  rw [if_pos rfl]
  by_cases hm0 : m = 0
  · rw [if_pos hm0]
    subst hm0
    go_enter Tryz.func78, Tryz.ntmps78
    go_wp2
    go_ret
    exact ⟨rfl, HB.out _ _⟩
  rw [if_neg hm0]
  obtain ⟨m1, hm1e⟩ : ∃ m1, m1 = m - 1 := ⟨_, rfl⟩
  have hw1 : IntKind.i64.wrap ((m : Int) - 1) = (m1 : Int) := by simp [IntKind.wrap, IntKind.bits, IntKind.signed]; omega
  have hv1 : (m : Int) - 1 = (m1 : Int) := by omega
  rw [← hm1e]
  have HM : Hid (m1 = m - 1 ∧ 1 ≤ m ∧ m ≤ 9223372036854775807) := ⟨hm1e, by omega, hmx⟩
  have hmb : ((m : Int) == 0) = false := by rw [beq_eq_false_iff_ne]; omega
  have hmn : ¬ (m : Int) = 0 := by omega
  clear hm1e hm0
  obtain ⟨y1, hy1⟩ : ∃ y, kk[m1]? = some y := ⟨_, List.getElem?_eq_getElem (by have := HF.out; have := HM.out; omega)⟩
  have e1 : kk.getD m1 0 = y1 := by simp [List.getD, hy1]
  rw [e1]
  have HY : Hid (kk[m1]? = some y1) := hy1
  clear hy1 e1
  have hX0 := fx_new w (.slice ao n c) (.slice xa m xc) xk xn 1 xf xe
  have hbw := HB.out (.cells #[.slice ao n c] 24) (.cells #[.int .i64 xk, .string xn, .int .i64 1, .slice xa m xc, .int .i64 xf, .int .i64 xe] 53)
  have hzz : w.heap.size + 1 < ((w.alloc (.cells #[.slice ao n c] 24)).alloc (.cells #[.int .i64 xk, .string xn, .int .i64 1, .slice xa m xc, .int .i64 xf, .int .i64 xe] 53)).heap.size := by simp
  obtain ⟨W0, hW0⟩ : ∃ W, W = (w.alloc (.cells #[.slice ao n c] 24)).alloc (.cells #[.int .i64 xk, .string xn, .int .i64 1, .slice xa m xc, .int .i64 xf, .int .i64 xe] 53) := ⟨_, rfl⟩
  rw [← hW0] at hX0 hbw hzz
  have HX : Hid (∀ W, Below W0.heap.size W0 W → Fx W0 w.heap.size (.slice ao n c) (.slice xa m xc) xk xn 1 xf xe W) := fun W hW => Fx.go hW hzz hX0
  have HBW : Hid (Below w.heap.size w W0) := hbw
  have HC : Hid (∀ W (i : Nat) y, kk[i]? = some y → Below W0.heap.size W0 W → Calls Tryz.prog 103 #[.agg #[.slice ao n c], .agg #[.int .i64 xk, .string xn, .int .i64 1, .slice xa m xc, .int .i64 xf, .int .i64 xe], .int .i64 i] W fun e w' => e = .returned (.int .i64 y) ∧ Below W0.heap.size W0 w') := fun W i y hy hW => (HK.out W i y hy (hbw.trans (hW.mono hbw.size))).mono fun _ _ ⟨he, hb⟩ => ⟨he, hW.trans (hb.mono hW.size)⟩
  have HW0 : Hid (Below W0.heap.size W0 ((w.alloc (.cells #[.slice ao n c] 24)).alloc (.cells #[.int .i64 xk, .string xn, .int .i64 1, .slice xa m xc, .int .i64 xf, .int .i64 xe] 53))) := by rw [← hW0]; exact Below.refl _ _
  clear hX0 hbw HK hW0 hzz
  have HI69 : Hid (∀ W, Calls Tryz.prog 102 #[.int .i64 y1, .int .u8 69] W fun e w' => e = .returned (.bool (isB y1 69)) ∧ w' = W) := fun W => H69.out W y1
  generalize isB y1 69 = b1 at *
  cases b1
  · rw [Bool.false_and]
    go_enter Tryz.func78, Tryz.ntmps78
    go_wp2_with fail
    refine (HC.out _ m1 y1 HY.out HW0.out).mono ?_
    rintro e w1 ⟨rfl, hb1⟩
    have HB1 : Hid (Below W0.heap.size W0 w1) := hb1
    clear hb1
    go_wp2_with fail
    refine (HI69.out _).mono ?_
    rintro e w2 ⟨rfl, rfl⟩
    go_wp2
    go_ret
    exact ⟨rfl, HBW.out.trans (HB1.out.mono HBW.out.size)⟩
  rw [Bool.true_and]
  obtain ⟨R, hR⟩ : ∃ R, R = (kk.take m1).all fun z => isB z 83 := ⟨_, rfl⟩
  rw [← hR]
  have HR : Hid (R = (kk.take m1).all fun z => isB z 83) := hR
  clear hR
  go_enter Tryz.func78, Tryz.ntmps78
  go_wp2_with fail
  refine (HC.out _ m1 y1 HY.out HW0.out).mono ?_
  rintro e w1 ⟨rfl, hb1⟩
  obtain ⟨_, t0, n0, n1, n2, n3, n4, n5⟩ := HX.out w1 hb1
  have HB1 : Hid (Below W0.heap.size W0 w1) := hb1
  clear hb1
  go_wp2_with fail
  refine (HI69.out _).mono ?_
  rintro e w2 ⟨rfl, rfl⟩
  clear t0 n0 n1 n2 n3 n4 n5
  go_wp2
  go_loopw [9] (fun i wx => ∃ q : Nat, q ≤ m1 ∧ i = .int .i64 q ∧ Below W0.heap.size W0 wx ∧ ((kk.take m1).take q).all (fun z => isB z 83) = true) (fun i _ => m1 - (intOf i).toNat)
  case atStart => exact ⟨0, Nat.zero_le _, rfl, HB1.out, rfl⟩
  case round =>
    obtain ⟨q, hq, rfl, hB, hA⟩ := hrel
    have HBq : Hid (Below W0.heap.size W0 wr) := hB
    obtain ⟨_, t0, n0, n1, n2, n3, n4, n5⟩ := HX.out wr hB
    by_cases hlt : q < m1
    · obtain ⟨y, hy⟩ : ∃ y, kk[q]? = some y := ⟨_, List.getElem?_eq_getElem (by have := HF.out; have := HM.out; omega)⟩
      have HCq : Hid (∀ W, Below W0.heap.size W0 W → Calls Tryz.prog 103 #[.agg #[.slice ao n c], .agg #[.int .i64 xk, .string xn, .int .i64 1, .slice xa m xc, .int .i64 xf, .int .i64 xe], .int .i64 q] W fun e w' => e = .returned (.int .i64 y) ∧ Below W0.heap.size W0 w') := fun W hW => HC.out W q y hy hW
      have HV : Hid (((kk.take m1).take (q + 1)).all (fun z => isB z 83) = isB y 83 ∧ (isB y 83 = false → R = false)) := ⟨take_all_step hlt hy hA, fun h => by rw [HR.out]; exact take_all_no hlt hy h⟩
      have HIq : Hid (∀ W, Calls Tryz.prog 102 #[.int .i64 y, .int .u8 83] W fun e w' => e = .returned (.bool (isB y 83)) ∧ w' = W) := fun W => H83.out W y
      clear hy hA hB
      generalize isB y 83 = b at *
      have hq9 : q < 9223372036854775807 := by have := HM.out; omega
      cases b
      · obtain rfl := HV.out.2 rfl
        go_wp2_with fail
        refine (HCq.out _ HBq.out).mono ?_
        rintro e w5 ⟨rfl, hb5⟩
        have HB5 : Hid (Below W0.heap.size W0 w5) := hb5
        clear hb5
        go_wp2_with fail
        refine (HIq.out _).mono ?_
        rintro e w6 ⟨rfl, rfl⟩
        go_wp2
        go_ret
        exact ⟨rfl, HBW.out.trans (HB5.out.mono HBW.out.size)⟩
      · go_wp2_with fail
        refine (HCq.out _ HBq.out).mono ?_
        rintro e w5 ⟨rfl, hb5⟩
        have HB5 : Hid (Below W0.heap.size W0 w5) := hb5
        clear hb5
        go_wp2_with fail
        refine (HIq.out _).mono ?_
        rintro e w6 ⟨rfl, rfl⟩
        go_wp2
        exact ⟨⟨q + 1, by omega, by go_num, HB5.out, HV.out.1⟩, by simp [intOf]; omega⟩
    · obtain rfl : q = m1 := by omega
      have hta : (kk.take q).take q = kk.take q := List.take_of_length_le (by simp; omega)
      rw [hta] at hA
      obtain rfl : R = true := by rw [HR.out, hA]
      clear hta hA hB
      go_wp2
      go_ret
      exact ⟨rfl, HBW.out.trans (HBq.out.mono HBW.out.size)⟩
end
end Go.Proofs.YtkkmeogehapjoaaGreatDoor

/- The document's own look at an instruction's fields, by its operation. -/
import Derived.Test.YtdppoblbenbafaaGreatDoorYBI
namespace Go.Proofs.YtdppoblbenbafaaGreatDoor
open Go.RowKit Go.Shelf
set_option maxHeartbeats 8000000
set_option maxRecDepth 20000
theorem rf_6 (f : Fnh) (i : Ins) (w : World) (hk : i.op = 6) (hAr : ArA w i.ar i.ac i.gs) (hD : flB f.rg (fmL i.op) 68 100 i.d = true) (hA : flB f.rg (fmL i.op) 65 97 i.a = true) (hB : flB f.rg (fmL i.op) 66 98 i.b = true) : Calls Tryz.prog 63 #[fnhV f, inV i] w fun e w' => e = .returned (.bool (fdR f i)) ∧ G w w' := by
  have hF : fmL i.op = [68, 78] := by rw [hk]; rfl
  have HV : Hid (fdR f i = (i.nm.data.toList.isEmpty && (i.gs.isEmpty && ((i.to == 0) && ((i.el == 0) && i.gs.all (rgB f.rg)))))) := by
    show _ = _
    unfold fdR
    rw [hD, hA, hB, hF]
    rfl
  have HAr : Hid (ArA w i.ar i.ac i.gs) := hAr
  have hac := hAr.1
  have hac2 := hAr.2.1
  have HF : Hid (∀ w, Calls Tryz.prog 92 #[.int .i64 i.op] w fun e w' => e = .returned (.string ⟨#[68, 78]⟩) ∧ w' = w) := fun w => by
    have t := rform92 i.op w
    rw [hF] at t
    exact t
  have HD : Hid (∀ w, Calls Tryz.prog 93 #[fnhV f, .string ⟨#[68, 78]⟩, .int .u8 68, .int .u8 100, .int .i64 i.d] w fun e w' => e = .returned (.bool true) ∧ G w w') := fun w => by
    have t := rfield93 f ⟨#[68, 78]⟩ 68 100 i.d w (by decide)
    rw [hF] at hD
    rw [show flB f.rg (⟨#[68, 78]⟩ : ByteArray).data.toList 68 100 i.d = true from hD] at t
    exact t
  have HA : Hid (∀ w, Calls Tryz.prog 93 #[fnhV f, .string ⟨#[68, 78]⟩, .int .u8 65, .int .u8 97, .int .i64 i.a] w fun e w' => e = .returned (.bool true) ∧ G w w') := fun w => by
    have t := rfield93 f ⟨#[68, 78]⟩ 65 97 i.a w (by decide)
    rw [hF] at hA
    rw [show flB f.rg (⟨#[68, 78]⟩ : ByteArray).data.toList 65 97 i.a = true from hA] at t
    exact t
  have HB : Hid (∀ w, Calls Tryz.prog 93 #[fnhV f, .string ⟨#[68, 78]⟩, .int .u8 66, .int .u8 98, .int .i64 i.b] w fun e w' => e = .returned (.bool true) ∧ G w w') := fun w => by
    have t := rfield93 f ⟨#[68, 78]⟩ 66 98 i.b w (by decide)
    rw [hF] at hB
    rw [show flB f.rg (⟨#[68, 78]⟩ : ByteArray).data.toList 66 98 i.b = true from hB] at t
    exact t
  have H78 : Hid (∀ w, Calls Tryz.prog 94 #[.string ⟨#[68, 78]⟩, .int .u8 78] w fun e w' => e = .returned (.bool true) ∧ w' = w) := fun w => rhas94 ⟨#[68, 78]⟩ 78 w (by decide)
  have H83 : Hid (∀ w, Calls Tryz.prog 94 #[.string ⟨#[68, 78]⟩, .int .u8 83] w fun e w' => e = .returned (.bool false) ∧ w' = w) := fun w => rhas94 ⟨#[68, 78]⟩ 83 w (by decide)
  have H82 : Hid (∀ w, Calls Tryz.prog 94 #[.string ⟨#[68, 78]⟩, .int .u8 82] w fun e w' => e = .returned (.bool false) ∧ w' = w) := fun w => rhas94 ⟨#[68, 78]⟩ 82 w (by decide)
  have H84 : Hid (∀ w, Calls Tryz.prog 94 #[.string ⟨#[68, 78]⟩, .int .u8 84] w fun e w' => e = .returned (.bool false) ∧ w' = w) := fun w => rhas94 ⟨#[68, 78]⟩ 84 w (by decide)
  have H69 : Hid (∀ w, Calls Tryz.prog 94 #[.string ⟨#[68, 78]⟩, .int .u8 69] w fun e w' => e = .returned (.bool false) ∧ w' = w) := fun w => rhas94 ⟨#[68, 78]⟩ 69 w (by decide)
  have HRG : Hid (∀ y w, Calls Tryz.prog 95 #[fnhV f, .int .i64 y] w fun e w' => e = .returned (.bool (rgB f.rg y)) ∧ G w w') := fun y w => rreg95 f y w
  have HBX : Hid (Bx2 w ((w.alloc (.cells #[.string f.nm, .int .i64 f.pa, .int .i64 f.rg, .int .i64 f.fr, .slice f.ba f.bl f.bc] 27)).alloc (.cells #[.int .i64 i.op, .int .i64 i.d, .int .i64 i.a, .int .i64 i.b, .int .i64 i.n, .string i.nm, .slice i.ar i.gs.length i.ac, .int .i64 i.to, .int .i64 i.el] 54)) f i i.gs.length) := bx2 w f i _
  have HBE : Hid (i.nm.toList.isEmpty = i.nm.data.toList.isEmpty) := ba_empty i.nm
  have HGE : Hid (i.gs.isEmpty = decide (i.gs.length = 0)) := by show _ = _; rw [Bool.eq_iff_iff]; simp
  rw [HGE.out] at HV
  unfold fnhV inV at *
  obtain ⟨al, hal⟩ : ∃ al, al = i.gs.length := ⟨_, rfl⟩
  have HL : Hid (al = i.gs.length) := hal
  rw [← hal] at hac HBX HV ⊢
  clear hal hAr hk hF hD hA hB HGE
  generalize fdR f i = R at *
  generalize hE : i.nm.data.toList.isEmpty = E at *
  clear hE
  go_enter Tryz.func63, Tryz.ntmps63
  go_wp2_with (first | (go_at_call 92; refine (HF.out _).mono ?_; rintro e w0 ⟨rfl, rfl⟩))
  refine (HD.out _).mono ?_
  rintro e w1 ⟨rfl, hg1⟩
  have HX1 : Hid (Bx2 w w1 f i al) := HBX.out.to hg1
  clear hg1
  obtain ⟨-, -, a0, a1, a2, a3, a4, b0, b1, b2, b3, b4, b5, b6, b7, b8⟩ := HX1.out
  go_wp2_with fail
  refine (HA.out _).mono ?_
  rintro e w2 ⟨rfl, hg2⟩
  have HX2 : Hid (Bx2 w w2 f i al) := HX1.out.to hg2
  clear hg2
  clear a0 a1 a2 a3 a4 b0 b1 b2 b3 b4 b5 b6 b7 b8
  obtain ⟨-, -, a0, a1, a2, a3, a4, b0, b1, b2, b3, b4, b5, b6, b7, b8⟩ := HX2.out
  go_wp2_with fail
  refine (HB.out _).mono ?_
  rintro e w3 ⟨rfl, hg3⟩
  have HX3 : Hid (Bx2 w w3 f i al) := HX2.out.to hg3
  clear hg3
  clear a0 a1 a2 a3 a4 b0 b1 b2 b3 b4 b5 b6 b7 b8
  obtain ⟨-, -, a0, a1, a2, a3, a4, b0, b1, b2, b3, b4, b5, b6, b7, b8⟩ := HX3.out
  clear HX1 HX2 HBX HD HA HB HF
  by_cases hs : E = true
  case neg =>
    have hs2 : E = false := by simpa using hs
    have qs : i.nm.toList.isEmpty = false := HBE.out.trans hs2
    have HE : Hid (false = R) := by show _ = _; rw [HV.out]; simp [*]
    go_wp2_with (first | (go_at_call 94; (first | (with_reducible refine (H78.out _).mono ?_) | (with_reducible refine (H83.out _).mono ?_) | (with_reducible refine (H82.out _).mono ?_) | (with_reducible refine (H84.out _).mono ?_) | (with_reducible refine (H69.out _).mono ?_)); rintro e wn ⟨rfl, rfl⟩))
    all_goals go_ret
    all_goals exact ⟨ret_bool HE.out, HX3.out.g⟩
  have qs : i.nm.toList.isEmpty = true := HBE.out.trans hs
  by_cases hr : al = 0
  case neg =>
    have qr : decide (al = 0) = false := by simpa using hr
    have qr2 : 0 < al := by omega
    have HE : Hid (false = R) := by show _ = _; rw [HV.out]; simp [*]
    go_wp2_with (first | (go_at_call 94; (first | (with_reducible refine (H78.out _).mono ?_) | (with_reducible refine (H83.out _).mono ?_) | (with_reducible refine (H82.out _).mono ?_) | (with_reducible refine (H84.out _).mono ?_) | (with_reducible refine (H69.out _).mono ?_)); rintro e wn ⟨rfl, rfl⟩))
    all_goals go_ret
    all_goals exact ⟨ret_bool HE.out, HX3.out.g⟩
  have qr : decide (al = 0) = true := by simpa using hr
  have qr2 : ¬ 0 < al := by omega
  have HR0 : Hid (al = 0) := hr
  clear hr
  by_cases ht : i.to = 0
  case neg =>
    have qt : (i.to == 0) = false := by simpa using ht
    have qt2 : (i.to != 0) = true := by simpa using ht
    have HE : Hid (false = R) := by show _ = _; rw [HV.out]; simp [*]
    go_wp2_with (first | (go_at_call 94; (first | (with_reducible refine (H78.out _).mono ?_) | (with_reducible refine (H83.out _).mono ?_) | (with_reducible refine (H82.out _).mono ?_) | (with_reducible refine (H84.out _).mono ?_) | (with_reducible refine (H69.out _).mono ?_)); rintro e wn ⟨rfl, rfl⟩))
    all_goals go_ret
    all_goals exact ⟨ret_bool HE.out, HX3.out.g⟩
  have qt : (i.to == 0) = true := by simpa using ht
  have qt2 : (i.to != 0) = false := by simpa using ht
  have ht0 : 0 ≤ i.to := by omega
  clear ht
  by_cases he : i.el = 0
  case neg =>
    have qe : (i.el == 0) = false := by simpa using he
    have qe2 : (i.el != 0) = true := by simpa using he
    have HE : Hid (false = R) := by show _ = _; rw [HV.out]; simp [*]
    go_wp2_with (first | (go_at_call 94; (first | (with_reducible refine (H78.out _).mono ?_) | (with_reducible refine (H83.out _).mono ?_) | (with_reducible refine (H82.out _).mono ?_) | (with_reducible refine (H84.out _).mono ?_) | (with_reducible refine (H69.out _).mono ?_)); rintro e wn ⟨rfl, rfl⟩))
    all_goals go_ret
    all_goals exact ⟨ret_bool HE.out, HX3.out.g⟩
  have qe : (i.el == 0) = true := by simpa using he
  have qe2 : (i.el != 0) = false := by simpa using he
  have he0 : 0 ≤ i.el := by omega
  clear he
  have HGS : Hid (i.gs = []) := List.length_eq_zero_iff.1 (HL.out.symm.trans HR0.out)
  have HE : Hid (true = R) := by show _ = _; rw [HV.out, HGS.out]; simp [*]
  clear HV
  go_wp2_with (first | (go_at_call 94; (first | (with_reducible refine (H78.out _).mono ?_) | (with_reducible refine (H83.out _).mono ?_) | (with_reducible refine (H82.out _).mono ?_) | (with_reducible refine (H84.out _).mono ?_) | (with_reducible refine (H69.out _).mono ?_)); rintro e wn ⟨rfl, rfl⟩))
  clear H78 H83 H82 H84 H69
  go_loopw [8] (fun v wx => ∃ j : Nat, j ≤ al ∧ v = .int .i64 j ∧ G wn wx) (fun v _ => al - (intOf v).toNat)
  case atStart => exact ⟨0, Nat.zero_le _, rfl, G.refl _⟩
  case round =>
    obtain ⟨j, hj, rfl, hGx⟩ := hrel
    have HX4 : Hid (Bx2 w wr f i al) := HX3.out.to hGx
    clear hGx
    clear a0 a1 a2 a3 a4 b0 b1 b2 b3 b4 b5 b6 b7 b8
    obtain ⟨-, -, a0, a1, a2, a3, a4, b0, b1, b2, b3, b4, b5, b6, b7, b8⟩ := HX4.out
    obtain rfl : j = al := by have := HR0.out; omega
    go_wp2
    go_ret
    exact ⟨ret_bool HE.out, HX4.out.g⟩
theorem rf_7 (f : Fnh) (i : Ins) (w : World) (hk : i.op = 7) (hAr : ArA w i.ar i.ac i.gs) (hD : flB f.rg (fmL i.op) 68 100 i.d = true) (hA : flB f.rg (fmL i.op) 65 97 i.a = true) (hB : flB f.rg (fmL i.op) 66 98 i.b = true) : Calls Tryz.prog 63 #[fnhV f, inV i] w fun e w' => e = .returned (.bool (fdR f i)) ∧ G w w' := by
  have hF : fmL i.op = [100, 83, 82] := by rw [hk]; rfl
  have HV : Hid (fdR f i = ((i.n == 0) && ((i.to == 0) && ((i.el == 0) && i.gs.all (rgB f.rg))))) := by
    show _ = _
    unfold fdR
    rw [hD, hA, hB, hF]
    rfl
  have HAr : Hid (ArA w i.ar i.ac i.gs) := hAr
  have hac := hAr.1
  have hac2 := hAr.2.1
  have HF : Hid (∀ w, Calls Tryz.prog 92 #[.int .i64 i.op] w fun e w' => e = .returned (.string ⟨#[100, 83, 82]⟩) ∧ w' = w) := fun w => by
    have t := rform92 i.op w
    rw [hF] at t
    exact t
  have HD : Hid (∀ w, Calls Tryz.prog 93 #[fnhV f, .string ⟨#[100, 83, 82]⟩, .int .u8 68, .int .u8 100, .int .i64 i.d] w fun e w' => e = .returned (.bool true) ∧ G w w') := fun w => by
    have t := rfield93 f ⟨#[100, 83, 82]⟩ 68 100 i.d w (by decide)
    rw [hF] at hD
    rw [show flB f.rg (⟨#[100, 83, 82]⟩ : ByteArray).data.toList 68 100 i.d = true from hD] at t
    exact t
  have HA : Hid (∀ w, Calls Tryz.prog 93 #[fnhV f, .string ⟨#[100, 83, 82]⟩, .int .u8 65, .int .u8 97, .int .i64 i.a] w fun e w' => e = .returned (.bool true) ∧ G w w') := fun w => by
    have t := rfield93 f ⟨#[100, 83, 82]⟩ 65 97 i.a w (by decide)
    rw [hF] at hA
    rw [show flB f.rg (⟨#[100, 83, 82]⟩ : ByteArray).data.toList 65 97 i.a = true from hA] at t
    exact t
  have HB : Hid (∀ w, Calls Tryz.prog 93 #[fnhV f, .string ⟨#[100, 83, 82]⟩, .int .u8 66, .int .u8 98, .int .i64 i.b] w fun e w' => e = .returned (.bool true) ∧ G w w') := fun w => by
    have t := rfield93 f ⟨#[100, 83, 82]⟩ 66 98 i.b w (by decide)
    rw [hF] at hB
    rw [show flB f.rg (⟨#[100, 83, 82]⟩ : ByteArray).data.toList 66 98 i.b = true from hB] at t
    exact t
  have H78 : Hid (∀ w, Calls Tryz.prog 94 #[.string ⟨#[100, 83, 82]⟩, .int .u8 78] w fun e w' => e = .returned (.bool false) ∧ w' = w) := fun w => rhas94 ⟨#[100, 83, 82]⟩ 78 w (by decide)
  have H83 : Hid (∀ w, Calls Tryz.prog 94 #[.string ⟨#[100, 83, 82]⟩, .int .u8 83] w fun e w' => e = .returned (.bool true) ∧ w' = w) := fun w => rhas94 ⟨#[100, 83, 82]⟩ 83 w (by decide)
  have H82 : Hid (∀ w, Calls Tryz.prog 94 #[.string ⟨#[100, 83, 82]⟩, .int .u8 82] w fun e w' => e = .returned (.bool true) ∧ w' = w) := fun w => rhas94 ⟨#[100, 83, 82]⟩ 82 w (by decide)
  have H84 : Hid (∀ w, Calls Tryz.prog 94 #[.string ⟨#[100, 83, 82]⟩, .int .u8 84] w fun e w' => e = .returned (.bool false) ∧ w' = w) := fun w => rhas94 ⟨#[100, 83, 82]⟩ 84 w (by decide)
  have H69 : Hid (∀ w, Calls Tryz.prog 94 #[.string ⟨#[100, 83, 82]⟩, .int .u8 69] w fun e w' => e = .returned (.bool false) ∧ w' = w) := fun w => rhas94 ⟨#[100, 83, 82]⟩ 69 w (by decide)
  have HRG : Hid (∀ y w, Calls Tryz.prog 95 #[fnhV f, .int .i64 y] w fun e w' => e = .returned (.bool (rgB f.rg y)) ∧ G w w') := fun y w => rreg95 f y w
  have HBX : Hid (Bx2 w ((w.alloc (.cells #[.string f.nm, .int .i64 f.pa, .int .i64 f.rg, .int .i64 f.fr, .slice f.ba f.bl f.bc] 27)).alloc (.cells #[.int .i64 i.op, .int .i64 i.d, .int .i64 i.a, .int .i64 i.b, .int .i64 i.n, .string i.nm, .slice i.ar i.gs.length i.ac, .int .i64 i.to, .int .i64 i.el] 54)) f i i.gs.length) := bx2 w f i _
  have HBE : Hid (i.nm.toList.isEmpty = i.nm.data.toList.isEmpty) := ba_empty i.nm
  have HGE : Hid (i.gs.isEmpty = decide (i.gs.length = 0)) := by show _ = _; rw [Bool.eq_iff_iff]; simp
  unfold fnhV inV at *
  obtain ⟨al, hal⟩ : ∃ al, al = i.gs.length := ⟨_, rfl⟩
  have HL : Hid (al = i.gs.length) := hal
  rw [← hal] at hac HBX ⊢
  clear hal hAr hk hF hD hA hB HGE
  generalize fdR f i = R at *
  generalize hE : i.nm.data.toList.isEmpty = E at *
  clear hE
  go_enter Tryz.func63, Tryz.ntmps63
  go_wp2_with (first | (go_at_call 92; refine (HF.out _).mono ?_; rintro e w0 ⟨rfl, rfl⟩))
  refine (HD.out _).mono ?_
  rintro e w1 ⟨rfl, hg1⟩
  have HX1 : Hid (Bx2 w w1 f i al) := HBX.out.to hg1
  clear hg1
  obtain ⟨-, -, a0, a1, a2, a3, a4, b0, b1, b2, b3, b4, b5, b6, b7, b8⟩ := HX1.out
  go_wp2_with fail
  refine (HA.out _).mono ?_
  rintro e w2 ⟨rfl, hg2⟩
  have HX2 : Hid (Bx2 w w2 f i al) := HX1.out.to hg2
  clear hg2
  clear a0 a1 a2 a3 a4 b0 b1 b2 b3 b4 b5 b6 b7 b8
  obtain ⟨-, -, a0, a1, a2, a3, a4, b0, b1, b2, b3, b4, b5, b6, b7, b8⟩ := HX2.out
  go_wp2_with fail
  refine (HB.out _).mono ?_
  rintro e w3 ⟨rfl, hg3⟩
  have HX3 : Hid (Bx2 w w3 f i al) := HX2.out.to hg3
  clear hg3
  clear a0 a1 a2 a3 a4 b0 b1 b2 b3 b4 b5 b6 b7 b8
  obtain ⟨-, -, a0, a1, a2, a3, a4, b0, b1, b2, b3, b4, b5, b6, b7, b8⟩ := HX3.out
  clear HX1 HX2 HBX HD HA HB HF
  by_cases hn : i.n = 0
  case neg =>
    have qn : (i.n == 0) = false := by simpa using hn
    have qn2 : (i.n != 0) = true := by simpa using hn
    have HE : Hid (false = R) := by show _ = _; rw [HV.out]; simp [*]
    go_wp2_with (first | (go_at_call 94; (first | (with_reducible refine (H78.out _).mono ?_) | (with_reducible refine (H83.out _).mono ?_) | (with_reducible refine (H82.out _).mono ?_) | (with_reducible refine (H84.out _).mono ?_) | (with_reducible refine (H69.out _).mono ?_)); rintro e wn ⟨rfl, rfl⟩))
    all_goals go_ret
    all_goals exact ⟨ret_bool HE.out, HX3.out.g⟩
  have qn : (i.n == 0) = true := by simpa using hn
  have qn2 : (i.n != 0) = false := by simpa using hn
  clear hn
  by_cases ht : i.to = 0
  case neg =>
    have qt : (i.to == 0) = false := by simpa using ht
    have qt2 : (i.to != 0) = true := by simpa using ht
    have HE : Hid (false = R) := by show _ = _; rw [HV.out]; simp [*]
    go_wp2_with (first | (go_at_call 94; (first | (with_reducible refine (H78.out _).mono ?_) | (with_reducible refine (H83.out _).mono ?_) | (with_reducible refine (H82.out _).mono ?_) | (with_reducible refine (H84.out _).mono ?_) | (with_reducible refine (H69.out _).mono ?_)); rintro e wn ⟨rfl, rfl⟩))
    all_goals go_ret
    all_goals exact ⟨ret_bool HE.out, HX3.out.g⟩
  have qt : (i.to == 0) = true := by simpa using ht
  have qt2 : (i.to != 0) = false := by simpa using ht
  have ht0 : 0 ≤ i.to := by omega
  clear ht
  by_cases he : i.el = 0
  case neg =>
    have qe : (i.el == 0) = false := by simpa using he
    have qe2 : (i.el != 0) = true := by simpa using he
    have HE : Hid (false = R) := by show _ = _; rw [HV.out]; simp [*]
    go_wp2_with (first | (go_at_call 94; (first | (with_reducible refine (H78.out _).mono ?_) | (with_reducible refine (H83.out _).mono ?_) | (with_reducible refine (H82.out _).mono ?_) | (with_reducible refine (H84.out _).mono ?_) | (with_reducible refine (H69.out _).mono ?_)); rintro e wn ⟨rfl, rfl⟩))
    all_goals go_ret
    all_goals exact ⟨ret_bool HE.out, HX3.out.g⟩
  have qe : (i.el == 0) = true := by simpa using he
  have qe2 : (i.el != 0) = false := by simpa using he
  have he0 : 0 ≤ i.el := by omega
  clear he
  have HE : Hid (R = (i.gs.drop 0).all (rgB f.rg)) := by show _ = _; rw [HV.out]; simp [*]
  clear HV
  go_wp2_with (first | (go_at_call 94; (first | (with_reducible refine (H78.out _).mono ?_) | (with_reducible refine (H83.out _).mono ?_) | (with_reducible refine (H82.out _).mono ?_) | (with_reducible refine (H84.out _).mono ?_) | (with_reducible refine (H69.out _).mono ?_)); rintro e wn ⟨rfl, rfl⟩))
  clear H78 H83 H82 H84 H69
  go_loopw [8] (fun v wx => ∃ j : Nat, j ≤ al ∧ v = .int .i64 j ∧ G wn wx ∧ R = (i.gs.drop j).all (rgB f.rg)) (fun v _ => al - (intOf v).toNat)
  case atStart => exact ⟨0, Nat.zero_le _, rfl, G.refl _, HE.out⟩
  case round =>
    obtain ⟨j, hj, rfl, hGx, hRu⟩ := hrel
    have HX : Hid (G wn wr) := hGx
    have HRu : Hid (R = (i.gs.drop j).all (rgB f.rg)) := hRu
    have HX4 : Hid (Bx2 w wr f i al) := HX3.out.to hGx
    clear hRu HE hGx
    clear a0 a1 a2 a3 a4 b0 b1 b2 b3 b4 b5 b6 b7 b8
    obtain ⟨-, -, a0, a1, a2, a3, a4, b0, b1, b2, b3, b4, b5, b6, b7, b8⟩ := HX4.out
    by_cases hlt : j < al
    · obtain ⟨y, hy⟩ : ∃ y, i.gs[j]? = some y := ⟨_, List.getElem?_eq_getElem (by have := HL.out; omega)⟩
      obtain ⟨g, oo, hao, hcc⟩ := (HAr.out.below HX4.out.g.below).2.2 (by have := HL.out; omega)
      have d0 := hcc j y hy
      have HU : Hid ((i.gs.drop j).all (rgB f.rg) = (rgB f.rg y && (i.gs.drop (j + 1)).all (rgB f.rg))) := by
        show _ = _
        obtain ⟨hj2, e⟩ := List.getElem?_eq_some_iff.1 hy
        rw [List.drop_eq_getElem_cons hj2, e]
        rfl
      have hsz := HX4.out.sz
      have hgl : g < wr.heap.size := World.block_lt_of_cell? _ _ d0
      rw [hao] at b6
      have g0 := gcell (by omega) a0
      have g1 := gcell (by omega) a1
      have g2 := gcell (by omega) a2
      have g3 := gcell (by omega) a3
      have g4 := gcell (by omega) a4
      have g6 := gcell hsz b6
      have gy := gcell hgl d0
      clear hcc hy hao
      have hC := fun n os => G.to (w := wr) (n := n) (os := os) (HRG.out y _)
      generalize rgB f.rg y = IB at *
      cases IB with
      | false =>
        have HE : Hid (false = R) := by show _ = _; rw [HRu.out, HU.out]; rfl
        go_wp2_with fail
        refine wp_region_quiet_grown (by kernel_rfl) (by kernel_rfl) ?_
        repeat (go_big_quiet_step ((first | (go_at_call 95; with_reducible exact hC _ _))))
        refine wpQuiet_nil ?_
        intro wz hwz
        obtain ⟨⟨nq, osq⟩, hwz2⟩ := hwz
        subst hwz2
        go_wp2
        go_ret
        exact ⟨ret_bool HE.out, HX4.out.g.trans ⟨nq, osq, rfl⟩⟩
      | true =>
        have HE : Hid (R = (i.gs.drop (j + 1)).all (rgB f.rg)) := by show _ = _; rw [HRu.out, HU.out]; rfl
        go_wp2_with fail
        refine wp_region_quiet_grown (by kernel_rfl) (by kernel_rfl) ?_
        repeat (go_big_quiet_step ((first | (go_at_call 95; with_reducible exact hC _ _))))
        refine wpQuiet_nil ?_
        intro wz hwz
        obtain ⟨⟨nq, osq⟩, hwz2⟩ := hwz
        subst hwz2
        go_wp2
        go_round
        case rel => exact ⟨j + 1, by omega, by go_num, HX.out.trans ⟨nq, osq, rfl⟩, HE.out⟩
        case measure => simp [intOf]; omega
    · obtain rfl : j = al := by omega
      have HE : Hid (true = R) := by show _ = _; rw [HRu.out, List.drop_eq_nil_of_le (by have := HL.out; omega)]; rfl
      go_wp2
      go_ret
      exact ⟨ret_bool HE.out, HX4.out.g⟩
theorem rf_8 (f : Fnh) (i : Ins) (w : World) (hk : i.op = 8) (hAr : ArA w i.ar i.ac i.gs) (hD : flB f.rg (fmL i.op) 68 100 i.d = true) (hA : flB f.rg (fmL i.op) 65 97 i.a = true) (hB : flB f.rg (fmL i.op) 66 98 i.b = true) : Calls Tryz.prog 63 #[fnhV f, inV i] w fun e w' => e = .returned (.bool (fdR f i)) ∧ G w w' := by
  have hF : fmL i.op = [84] := by rw [hk]; rfl
  have HV : Hid (fdR f i = ((i.n == 0) && (i.nm.data.toList.isEmpty && (i.gs.isEmpty && ((decide (0 ≤ i.to) && decide (i.to < f.bl)) && ((i.el == 0) && i.gs.all (rgB f.rg))))))) := by
    show _ = _
    unfold fdR
    rw [hD, hA, hB, hF]
    rfl
  have HAr : Hid (ArA w i.ar i.ac i.gs) := hAr
  have hac := hAr.1
  have hac2 := hAr.2.1
  have HF : Hid (∀ w, Calls Tryz.prog 92 #[.int .i64 i.op] w fun e w' => e = .returned (.string ⟨#[84]⟩) ∧ w' = w) := fun w => by
    have t := rform92 i.op w
    rw [hF] at t
    exact t
  have HD : Hid (∀ w, Calls Tryz.prog 93 #[fnhV f, .string ⟨#[84]⟩, .int .u8 68, .int .u8 100, .int .i64 i.d] w fun e w' => e = .returned (.bool true) ∧ G w w') := fun w => by
    have t := rfield93 f ⟨#[84]⟩ 68 100 i.d w (by decide)
    rw [hF] at hD
    rw [show flB f.rg (⟨#[84]⟩ : ByteArray).data.toList 68 100 i.d = true from hD] at t
    exact t
  have HA : Hid (∀ w, Calls Tryz.prog 93 #[fnhV f, .string ⟨#[84]⟩, .int .u8 65, .int .u8 97, .int .i64 i.a] w fun e w' => e = .returned (.bool true) ∧ G w w') := fun w => by
    have t := rfield93 f ⟨#[84]⟩ 65 97 i.a w (by decide)
    rw [hF] at hA
    rw [show flB f.rg (⟨#[84]⟩ : ByteArray).data.toList 65 97 i.a = true from hA] at t
    exact t
  have HB : Hid (∀ w, Calls Tryz.prog 93 #[fnhV f, .string ⟨#[84]⟩, .int .u8 66, .int .u8 98, .int .i64 i.b] w fun e w' => e = .returned (.bool true) ∧ G w w') := fun w => by
    have t := rfield93 f ⟨#[84]⟩ 66 98 i.b w (by decide)
    rw [hF] at hB
    rw [show flB f.rg (⟨#[84]⟩ : ByteArray).data.toList 66 98 i.b = true from hB] at t
    exact t
  have H78 : Hid (∀ w, Calls Tryz.prog 94 #[.string ⟨#[84]⟩, .int .u8 78] w fun e w' => e = .returned (.bool false) ∧ w' = w) := fun w => rhas94 ⟨#[84]⟩ 78 w (by decide)
  have H83 : Hid (∀ w, Calls Tryz.prog 94 #[.string ⟨#[84]⟩, .int .u8 83] w fun e w' => e = .returned (.bool false) ∧ w' = w) := fun w => rhas94 ⟨#[84]⟩ 83 w (by decide)
  have H82 : Hid (∀ w, Calls Tryz.prog 94 #[.string ⟨#[84]⟩, .int .u8 82] w fun e w' => e = .returned (.bool false) ∧ w' = w) := fun w => rhas94 ⟨#[84]⟩ 82 w (by decide)
  have H84 : Hid (∀ w, Calls Tryz.prog 94 #[.string ⟨#[84]⟩, .int .u8 84] w fun e w' => e = .returned (.bool true) ∧ w' = w) := fun w => rhas94 ⟨#[84]⟩ 84 w (by decide)
  have H69 : Hid (∀ w, Calls Tryz.prog 94 #[.string ⟨#[84]⟩, .int .u8 69] w fun e w' => e = .returned (.bool false) ∧ w' = w) := fun w => rhas94 ⟨#[84]⟩ 69 w (by decide)
  have HRG : Hid (∀ y w, Calls Tryz.prog 95 #[fnhV f, .int .i64 y] w fun e w' => e = .returned (.bool (rgB f.rg y)) ∧ G w w') := fun y w => rreg95 f y w
  have HBX : Hid (Bx2 w ((w.alloc (.cells #[.string f.nm, .int .i64 f.pa, .int .i64 f.rg, .int .i64 f.fr, .slice f.ba f.bl f.bc] 27)).alloc (.cells #[.int .i64 i.op, .int .i64 i.d, .int .i64 i.a, .int .i64 i.b, .int .i64 i.n, .string i.nm, .slice i.ar i.gs.length i.ac, .int .i64 i.to, .int .i64 i.el] 54)) f i i.gs.length) := bx2 w f i _
  have HBE : Hid (i.nm.toList.isEmpty = i.nm.data.toList.isEmpty) := ba_empty i.nm
  have HGE : Hid (i.gs.isEmpty = decide (i.gs.length = 0)) := by show _ = _; rw [Bool.eq_iff_iff]; simp
  rw [HGE.out] at HV
  unfold fnhV inV at *
  obtain ⟨al, hal⟩ : ∃ al, al = i.gs.length := ⟨_, rfl⟩
  have HL : Hid (al = i.gs.length) := hal
  rw [← hal] at hac HBX HV ⊢
  clear hal hAr hk hF hD hA hB HGE
  generalize fdR f i = R at *
  generalize hE : i.nm.data.toList.isEmpty = E at *
  clear hE
  go_enter Tryz.func63, Tryz.ntmps63
  go_wp2_with (first | (go_at_call 92; refine (HF.out _).mono ?_; rintro e w0 ⟨rfl, rfl⟩))
  refine (HD.out _).mono ?_
  rintro e w1 ⟨rfl, hg1⟩
  have HX1 : Hid (Bx2 w w1 f i al) := HBX.out.to hg1
  clear hg1
  obtain ⟨-, -, a0, a1, a2, a3, a4, b0, b1, b2, b3, b4, b5, b6, b7, b8⟩ := HX1.out
  go_wp2_with fail
  refine (HA.out _).mono ?_
  rintro e w2 ⟨rfl, hg2⟩
  have HX2 : Hid (Bx2 w w2 f i al) := HX1.out.to hg2
  clear hg2
  clear a0 a1 a2 a3 a4 b0 b1 b2 b3 b4 b5 b6 b7 b8
  obtain ⟨-, -, a0, a1, a2, a3, a4, b0, b1, b2, b3, b4, b5, b6, b7, b8⟩ := HX2.out
  go_wp2_with fail
  refine (HB.out _).mono ?_
  rintro e w3 ⟨rfl, hg3⟩
  have HX3 : Hid (Bx2 w w3 f i al) := HX2.out.to hg3
  clear hg3
  clear a0 a1 a2 a3 a4 b0 b1 b2 b3 b4 b5 b6 b7 b8
  obtain ⟨-, -, a0, a1, a2, a3, a4, b0, b1, b2, b3, b4, b5, b6, b7, b8⟩ := HX3.out
  clear HX1 HX2 HBX HD HA HB HF
  by_cases hn : i.n = 0
  case neg =>
    have qn : (i.n == 0) = false := by simpa using hn
    have qn2 : (i.n != 0) = true := by simpa using hn
    have HE : Hid (false = R) := by show _ = _; rw [HV.out]; simp [*]
    go_wp2_with (first | (go_at_call 94; (first | (with_reducible refine (H78.out _).mono ?_) | (with_reducible refine (H83.out _).mono ?_) | (with_reducible refine (H82.out _).mono ?_) | (with_reducible refine (H84.out _).mono ?_) | (with_reducible refine (H69.out _).mono ?_)); rintro e wn ⟨rfl, rfl⟩))
    all_goals go_ret
    all_goals exact ⟨ret_bool HE.out, HX3.out.g⟩
  have qn : (i.n == 0) = true := by simpa using hn
  have qn2 : (i.n != 0) = false := by simpa using hn
  clear hn
  by_cases hs : E = true
  case neg =>
    have hs2 : E = false := by simpa using hs
    have qs : i.nm.toList.isEmpty = false := HBE.out.trans hs2
    have HE : Hid (false = R) := by show _ = _; rw [HV.out]; simp [*]
    go_wp2_with (first | (go_at_call 94; (first | (with_reducible refine (H78.out _).mono ?_) | (with_reducible refine (H83.out _).mono ?_) | (with_reducible refine (H82.out _).mono ?_) | (with_reducible refine (H84.out _).mono ?_) | (with_reducible refine (H69.out _).mono ?_)); rintro e wn ⟨rfl, rfl⟩))
    all_goals go_ret
    all_goals exact ⟨ret_bool HE.out, HX3.out.g⟩
  have qs : i.nm.toList.isEmpty = true := HBE.out.trans hs
  by_cases hr : al = 0
  case neg =>
    have qr : decide (al = 0) = false := by simpa using hr
    have qr2 : 0 < al := by omega
    have HE : Hid (false = R) := by show _ = _; rw [HV.out]; simp [*]
    go_wp2_with (first | (go_at_call 94; (first | (with_reducible refine (H78.out _).mono ?_) | (with_reducible refine (H83.out _).mono ?_) | (with_reducible refine (H82.out _).mono ?_) | (with_reducible refine (H84.out _).mono ?_) | (with_reducible refine (H69.out _).mono ?_)); rintro e wn ⟨rfl, rfl⟩))
    all_goals go_ret
    all_goals exact ⟨ret_bool HE.out, HX3.out.g⟩
  have qr : decide (al = 0) = true := by simpa using hr
  have qr2 : ¬ 0 < al := by omega
  have HR0 : Hid (al = 0) := hr
  clear hr
  by_cases ht : 0 ≤ i.to
  case neg =>
    have qt : decide (0 ≤ i.to) = false := by simpa using ht
    have HE : Hid (false = R) := by show _ = _; rw [HV.out]; simp [*]
    go_wp2_with (first | (go_at_call 94; (first | (with_reducible refine (H78.out _).mono ?_) | (with_reducible refine (H83.out _).mono ?_) | (with_reducible refine (H82.out _).mono ?_) | (with_reducible refine (H84.out _).mono ?_) | (with_reducible refine (H69.out _).mono ?_)); rintro e wn ⟨rfl, rfl⟩))
    all_goals go_ret
    all_goals exact ⟨ret_bool HE.out, HX3.out.g⟩
  have qt : decide (0 ≤ i.to) = true := by simpa using ht
  by_cases ht2 : i.to < (f.bl : Int)
  case neg =>
    have qt2 : decide (i.to < (f.bl : Int)) = false := by simpa using ht2
    have HE : Hid (false = R) := by show _ = _; rw [HV.out]; simp [*]
    go_wp2_with (first | (go_at_call 94; (first | (with_reducible refine (H78.out _).mono ?_) | (with_reducible refine (H83.out _).mono ?_) | (with_reducible refine (H82.out _).mono ?_) | (with_reducible refine (H84.out _).mono ?_) | (with_reducible refine (H69.out _).mono ?_)); rintro e wn ⟨rfl, rfl⟩))
    all_goals go_ret
    all_goals exact ⟨ret_bool HE.out, HX3.out.g⟩
  have qt2 : decide (i.to < (f.bl : Int)) = true := by simpa using ht2
  by_cases he : i.el = 0
  case neg =>
    have qe : (i.el == 0) = false := by simpa using he
    have qe2 : (i.el != 0) = true := by simpa using he
    have HE : Hid (false = R) := by show _ = _; rw [HV.out]; simp [*]
    go_wp2_with (first | (go_at_call 94; (first | (with_reducible refine (H78.out _).mono ?_) | (with_reducible refine (H83.out _).mono ?_) | (with_reducible refine (H82.out _).mono ?_) | (with_reducible refine (H84.out _).mono ?_) | (with_reducible refine (H69.out _).mono ?_)); rintro e wn ⟨rfl, rfl⟩))
    all_goals go_ret
    all_goals exact ⟨ret_bool HE.out, HX3.out.g⟩
  have qe : (i.el == 0) = true := by simpa using he
  have qe2 : (i.el != 0) = false := by simpa using he
  have he0 : 0 ≤ i.el := by omega
  clear he
  have HGS : Hid (i.gs = []) := List.length_eq_zero_iff.1 (HL.out.symm.trans HR0.out)
  have HE : Hid (true = R) := by show _ = _; rw [HV.out, HGS.out]; simp [*]
  clear HV
  go_wp2_with (first | (go_at_call 94; (first | (with_reducible refine (H78.out _).mono ?_) | (with_reducible refine (H83.out _).mono ?_) | (with_reducible refine (H82.out _).mono ?_) | (with_reducible refine (H84.out _).mono ?_) | (with_reducible refine (H69.out _).mono ?_)); rintro e wn ⟨rfl, rfl⟩))
  clear H78 H83 H82 H84 H69
  go_loopw [8] (fun v wx => ∃ j : Nat, j ≤ al ∧ v = .int .i64 j ∧ G wn wx) (fun v _ => al - (intOf v).toNat)
  case atStart => exact ⟨0, Nat.zero_le _, rfl, G.refl _⟩
  case round =>
    obtain ⟨j, hj, rfl, hGx⟩ := hrel
    have HX4 : Hid (Bx2 w wr f i al) := HX3.out.to hGx
    clear hGx
    clear a0 a1 a2 a3 a4 b0 b1 b2 b3 b4 b5 b6 b7 b8
    obtain ⟨-, -, a0, a1, a2, a3, a4, b0, b1, b2, b3, b4, b5, b6, b7, b8⟩ := HX4.out
    obtain rfl : j = al := by have := HR0.out; omega
    go_wp2
    go_ret
    exact ⟨ret_bool HE.out, HX4.out.g⟩
end Go.Proofs.YtdppoblbenbafaaGreatDoor

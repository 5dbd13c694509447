/- The document's own look at an instruction's fields, by its operation. The document's own look at an instruction. An instruction is right by the document just if it is by the program: plain. -/
import Derived.Test.YtdppoblbenbafaaGreatDoorYBI
import Derived.Test.YtdppoblbenbafaaGreatDoorJ7
import Derived.Test.YtdppoblbenbafaaGreatDoorJ8
import Derived.Test.YtdppoblbenbafaaGreatDoorYAL
namespace Go.Proofs.YtdppoblbenbafaaGreatDoor
section
open Go.RowKit Go.Shelf
set_option maxHeartbeats 8000000
set_option maxRecDepth 20000
theorem rf_9 (f : Fnh) (i : Ins) (w : World) (hk : i.op = 9) (hAr : ArA w i.ar i.ac i.gs) (hD : flB f.rg (fmL i.op) 68 100 i.d = true) (hA : flB f.rg (fmL i.op) 65 97 i.a = true) (hB : flB f.rg (fmL i.op) 66 98 i.b = true) : Calls Tryz.prog 63 #[fnhV f, inV i] w fun e w' => e = .returned (.bool (fdR f i)) ∧ G w w' := by
  have hF : fmL i.op = [65, 84, 69] := by rw [hk]; rfl
  have HV : Hid (fdR f i = ((i.n == 0) && (i.nm.data.toList.isEmpty && (i.gs.isEmpty && ((decide (0 ≤ i.to) && decide (i.to < f.bl)) && ((decide (0 ≤ i.el) && decide (i.el < f.bl)) && i.gs.all (rgB f.rg))))))) := by
    show _ = _
    unfold fdR
    rw [hD, hA, hB, hF]
    rfl
  have HAr : Hid (ArA w i.ar i.ac i.gs) := hAr
  have hac := hAr.1
  have hac2 := hAr.2.1
  have HF : Hid (∀ w, Calls Tryz.prog 92 #[.int .i64 i.op] w fun e w' => e = .returned (.string ⟨#[65, 84, 69]⟩) ∧ w' = w) := fun w => by
    have t := rform92 i.op w
    rw [hF] at t
    exact t
  have HD : Hid (∀ w, Calls Tryz.prog 93 #[fnhV f, .string ⟨#[65, 84, 69]⟩, .int .u8 68, .int .u8 100, .int .i64 i.d] w fun e w' => e = .returned (.bool true) ∧ G w w') := fun w => by
    have t := rfield93 f ⟨#[65, 84, 69]⟩ 68 100 i.d w (by decide)
    rw [hF] at hD
    rw [show flB f.rg (⟨#[65, 84, 69]⟩ : ByteArray).data.toList 68 100 i.d = true from hD] at t
    exact t
  have HA : Hid (∀ w, Calls Tryz.prog 93 #[fnhV f, .string ⟨#[65, 84, 69]⟩, .int .u8 65, .int .u8 97, .int .i64 i.a] w fun e w' => e = .returned (.bool true) ∧ G w w') := fun w => by
    have t := rfield93 f ⟨#[65, 84, 69]⟩ 65 97 i.a w (by decide)
    rw [hF] at hA
    rw [show flB f.rg (⟨#[65, 84, 69]⟩ : ByteArray).data.toList 65 97 i.a = true from hA] at t
    exact t
  have HB : Hid (∀ w, Calls Tryz.prog 93 #[fnhV f, .string ⟨#[65, 84, 69]⟩, .int .u8 66, .int .u8 98, .int .i64 i.b] w fun e w' => e = .returned (.bool true) ∧ G w w') := fun w => by
    have t := rfield93 f ⟨#[65, 84, 69]⟩ 66 98 i.b w (by decide)
    rw [hF] at hB
    rw [show flB f.rg (⟨#[65, 84, 69]⟩ : ByteArray).data.toList 66 98 i.b = true from hB] at t
    exact t
  have H78 : Hid (∀ w, Calls Tryz.prog 94 #[.string ⟨#[65, 84, 69]⟩, .int .u8 78] w fun e w' => e = .returned (.bool false) ∧ w' = w) := fun w => rhas94 ⟨#[65, 84, 69]⟩ 78 w (by decide)
  have H83 : Hid (∀ w, Calls Tryz.prog 94 #[.string ⟨#[65, 84, 69]⟩, .int .u8 83] w fun e w' => e = .returned (.bool false) ∧ w' = w) := fun w => rhas94 ⟨#[65, 84, 69]⟩ 83 w (by decide)
  have H82 : Hid (∀ w, Calls Tryz.prog 94 #[.string ⟨#[65, 84, 69]⟩, .int .u8 82] w fun e w' => e = .returned (.bool false) ∧ w' = w) := fun w => rhas94 ⟨#[65, 84, 69]⟩ 82 w (by decide)
  have H84 : Hid (∀ w, Calls Tryz.prog 94 #[.string ⟨#[65, 84, 69]⟩, .int .u8 84] w fun e w' => e = .returned (.bool true) ∧ w' = w) := fun w => rhas94 ⟨#[65, 84, 69]⟩ 84 w (by decide)
  have H69 : Hid (∀ w, Calls Tryz.prog 94 #[.string ⟨#[65, 84, 69]⟩, .int .u8 69] w fun e w' => e = .returned (.bool true) ∧ w' = w) := fun w => rhas94 ⟨#[65, 84, 69]⟩ 69 w (by decide)
  have HRG : Hid (∀ y w, Calls Tryz.prog 95 #[fnhV f, .int .i64 y] w fun e w' => e = .returned (.bool (rgB f.rg y)) ∧ G w w') := fun y w => rreg95 f y w
  have HBX : Hid (Bx2 w ((w.alloc (.cells #[.string f.nm, .int .i64 f.pa, .int .i64 f.rg, .int .i64 f.fr, .slice f.ba f.bl f.bc] 27)).alloc (.cells #[.int .i64 i.op, .int .i64 i.d, .int .i64 i.a, .int .i64 i.b, .int .i64 i.n, .string i.nm, .slice i.ar i.gs.length i.ac, .int .i64 i.to, .int .i64 i.el] 54)) f i i.gs.length) := bx2 w f i _
  have HBE : Hid (i.nm.toList.isEmpty = i.nm.data.toList.isEmpty) := ba_empty i.nm
  have HGE : Hid (i.gs.isEmpty = decide (i.gs.length = 0)) := by show _ = _; rw [Bool.eq_iff_iff]; simp
  rw [HGE.out] at HV
  unfold fnhV inV at *
  obtain ⟨al, hal⟩ : ∃ al, al = i.gs.length := ⟨_, rfl⟩
  have HL : Hid (al = i.gs.length) := hal
  rw [← hal] at hac HBX HV ⊢
  clear hal hAr hk hF hD hA hB HGE
  generalize fdR f i = R at *
  generalize hE : i.nm.data.toList.isEmpty = E at *
  clear hE
  go_enter Tryz.func63, Tryz.ntmps63
  go_wp2_with (first | (go_at_call 92; refine (HF.out _).mono ?_; rintro e w0 ⟨rfl, rfl⟩))
  refine (HD.out _).mono ?_
  rintro e w1 ⟨rfl, hg1⟩
  have HX1 : Hid (Bx2 w w1 f i al) := HBX.out.to hg1
  clear hg1
  obtain ⟨-, -, a0, a1, a2, a3, a4, b0, b1, b2, b3, b4, b5, b6, b7, b8⟩ := HX1.out
  go_wp2_with fail
  refine (HA.out _).mono ?_
  rintro e w2 ⟨rfl, hg2⟩
  have HX2 : Hid (Bx2 w w2 f i al) := HX1.out.to hg2
  clear hg2
  clear a0 a1 a2 a3 a4 b0 b1 b2 b3 b4 b5 b6 b7 b8
  obtain ⟨-, -, a0, a1, a2, a3, a4, b0, b1, b2, b3, b4, b5, b6, b7, b8⟩ := HX2.out
  go_wp2_with fail
  refine (HB.out _).mono ?_
  rintro e w3 ⟨rfl, hg3⟩
  have HX3 : Hid (Bx2 w w3 f i al) := HX2.out.to hg3
  clear hg3
  clear a0 a1 a2 a3 a4 b0 b1 b2 b3 b4 b5 b6 b7 b8
  obtain ⟨-, -, a0, a1, a2, a3, a4, b0, b1, b2, b3, b4, b5, b6, b7, b8⟩ := HX3.out
  clear HX1 HX2 HBX HD HA HB HF
  by_cases hn : i.n = 0
  case neg =>
    have qn : (i.n == 0) = false := by simpa using hn
    have qn2 : (i.n != 0) = true := by simpa using hn
    have HE : Hid (false = R) := by show _ = _; rw [HV.out]; simp [*]
    go_wp2_with (first | (go_at_call 94; (first | (with_reducible refine (H78.out _).mono ?_) | (with_reducible refine (H83.out _).mono ?_) | (with_reducible refine (H82.out _).mono ?_) | (with_reducible refine (H84.out _).mono ?_) | (with_reducible refine (H69.out _).mono ?_)); rintro e wn ⟨rfl, rfl⟩))
    all_goals go_ret
    all_goals exact ⟨ret_bool HE.out, HX3.out.g⟩
  have qn : (i.n == 0) = true := by simpa using hn
  have qn2 : (i.n != 0) = false := by simpa using hn
  clear hn
  by_cases hs : E = true
  case neg =>
    have hs2 : E = false := by simpa using hs
    have qs : i.nm.toList.isEmpty = false := HBE.out.trans hs2
    have HE : Hid (false = R) := by show _ = _; rw [HV.out]; simp [*]
    go_wp2_with (first | (go_at_call 94; (first | (with_reducible refine (H78.out _).mono ?_) | (with_reducible refine (H83.out _).mono ?_) | (with_reducible refine (H82.out _).mono ?_) | (with_reducible refine (H84.out _).mono ?_) | (with_reducible refine (H69.out _).mono ?_)); rintro e wn ⟨rfl, rfl⟩))
    all_goals go_ret
    all_goals exact ⟨ret_bool HE.out, HX3.out.g⟩
  have qs : i.nm.toList.isEmpty = true := HBE.out.trans hs
  by_cases hr : al = 0
  case neg =>
    have qr : decide (al = 0) = false := by simpa using hr
    have qr2 : 0 < al := by omega
    have HE : Hid (false = R) := by show _ = _; rw [HV.out]; simp [*]
    go_wp2_with (first | (go_at_call 94; (first | (with_reducible refine (H78.out _).mono ?_) | (with_reducible refine (H83.out _).mono ?_) | (with_reducible refine (H82.out _).mono ?_) | (with_reducible refine (H84.out _).mono ?_) | (with_reducible refine (H69.out _).mono ?_)); rintro e wn ⟨rfl, rfl⟩))
    all_goals go_ret
    all_goals exact ⟨ret_bool HE.out, HX3.out.g⟩
  have qr : decide (al = 0) = true := by simpa using hr
  have qr2 : ¬ 0 < al := by omega
  have HR0 : Hid (al = 0) := hr
  clear hr
  by_cases ht : 0 ≤ i.to
  case neg =>
    have qt : decide (0 ≤ i.to) = false := by simpa using ht
    have HE : Hid (false = R) := by show _ = _; rw [HV.out]; simp [*]
    go_wp2_with (first | (go_at_call 94; (first | (with_reducible refine (H78.out _).mono ?_) | (with_reducible refine (H83.out _).mono ?_) | (with_reducible refine (H82.out _).mono ?_) | (with_reducible refine (H84.out _).mono ?_) | (with_reducible refine (H69.out _).mono ?_)); rintro e wn ⟨rfl, rfl⟩))
    all_goals go_ret
    all_goals exact ⟨ret_bool HE.out, HX3.out.g⟩
  have qt : decide (0 ≤ i.to) = true := by simpa using ht
  by_cases ht2 : i.to < (f.bl : Int)
  case neg =>
    have qt2 : decide (i.to < (f.bl : Int)) = false := by simpa using ht2
    have HE : Hid (false = R) := by show _ = _; rw [HV.out]; simp [*]
    go_wp2_with (first | (go_at_call 94; (first | (with_reducible refine (H78.out _).mono ?_) | (with_reducible refine (H83.out _).mono ?_) | (with_reducible refine (H82.out _).mono ?_) | (with_reducible refine (H84.out _).mono ?_) | (with_reducible refine (H69.out _).mono ?_)); rintro e wn ⟨rfl, rfl⟩))
    all_goals go_ret
    all_goals exact ⟨ret_bool HE.out, HX3.out.g⟩
  have qt2 : decide (i.to < (f.bl : Int)) = true := by simpa using ht2
  by_cases he : 0 ≤ i.el
  case neg =>
    have qe : decide (0 ≤ i.el) = false := by simpa using he
    have HE : Hid (false = R) := by show _ = _; rw [HV.out]; simp [*]
    go_wp2_with (first | (go_at_call 94; (first | (with_reducible refine (H78.out _).mono ?_) | (with_reducible refine (H83.out _).mono ?_) | (with_reducible refine (H82.out _).mono ?_) | (with_reducible refine (H84.out _).mono ?_) | (with_reducible refine (H69.out _).mono ?_)); rintro e wn ⟨rfl, rfl⟩))
    all_goals go_ret
    all_goals exact ⟨ret_bool HE.out, HX3.out.g⟩
  have qe : decide (0 ≤ i.el) = true := by simpa using he
  by_cases he2 : i.el < (f.bl : Int)
  case neg =>
    have qe2 : decide (i.el < (f.bl : Int)) = false := by simpa using he2
    have HE : Hid (false = R) := by show _ = _; rw [HV.out]; simp [*]
    go_wp2_with (first | (go_at_call 94; (first | (with_reducible refine (H78.out _).mono ?_) | (with_reducible refine (H83.out _).mono ?_) | (with_reducible refine (H82.out _).mono ?_) | (with_reducible refine (H84.out _).mono ?_) | (with_reducible refine (H69.out _).mono ?_)); rintro e wn ⟨rfl, rfl⟩))
    all_goals go_ret
    all_goals exact ⟨ret_bool HE.out, HX3.out.g⟩
  have qe2 : decide (i.el < (f.bl : Int)) = true := by simpa using he2
  have HGS : Hid (i.gs = []) := List.length_eq_zero_iff.1 (HL.out.symm.trans HR0.out)
  have HE : Hid (true = R) := by show _ = _; rw [HV.out, HGS.out]; simp [*]
  clear HV
  go_wp2_with (first | (go_at_call 94; (first | (with_reducible refine (H78.out _).mono ?_) | (with_reducible refine (H83.out _).mono ?_) | (with_reducible refine (H82.out _).mono ?_) | (with_reducible refine (H84.out _).mono ?_) | (with_reducible refine (H69.out _).mono ?_)); rintro e wn ⟨rfl, rfl⟩))
  clear H78 H83 H82 H84 H69
  go_loopw [8] (fun v wx => ∃ j : Nat, j ≤ al ∧ v = .int .i64 j ∧ G wn wx) (fun v _ => al - (intOf v).toNat)
  case atStart => exact ⟨0, Nat.zero_le _, rfl, G.refl _⟩
  case round =>
    obtain ⟨j, hj, rfl, hGx⟩ := hrel
    have HX4 : Hid (Bx2 w wr f i al) := HX3.out.to hGx
    clear hGx
    clear a0 a1 a2 a3 a4 b0 b1 b2 b3 b4 b5 b6 b7 b8
    obtain ⟨-, -, a0, a1, a2, a3, a4, b0, b1, b2, b3, b4, b5, b6, b7, b8⟩ := HX4.out
    obtain rfl : j = al := by have := HR0.out; omega
    go_wp2
    go_ret
    exact ⟨ret_bool HE.out, HX4.out.g⟩
theorem rf_10 (f : Fnh) (i : Ins) (w : World) (hk : i.op = 10) (hAr : ArA w i.ar i.ac i.gs) (hD : flB f.rg (fmL i.op) 68 100 i.d = true) (hA : flB f.rg (fmL i.op) 65 97 i.a = true) (hB : flB f.rg (fmL i.op) 66 98 i.b = true) : Calls Tryz.prog 63 #[fnhV f, inV i] w fun e w' => e = .returned (.bool (fdR f i)) ∧ G w w' := by
  have hF : fmL i.op = [97] := by rw [hk]; rfl
  have HV : Hid (fdR f i = ((i.n == 0) && (i.nm.data.toList.isEmpty && (i.gs.isEmpty && ((i.to == 0) && ((i.el == 0) && i.gs.all (rgB f.rg))))))) := by
    show _ = _
    unfold fdR
    rw [hD, hA, hB, hF]
    rfl
  have HAr : Hid (ArA w i.ar i.ac i.gs) := hAr
  have hac := hAr.1
  have hac2 := hAr.2.1
  have HF : Hid (∀ w, Calls Tryz.prog 92 #[.int .i64 i.op] w fun e w' => e = .returned (.string ⟨#[97]⟩) ∧ w' = w) := fun w => by
    have t := rform92 i.op w
    rw [hF] at t
    exact t
  have HD : Hid (∀ w, Calls Tryz.prog 93 #[fnhV f, .string ⟨#[97]⟩, .int .u8 68, .int .u8 100, .int .i64 i.d] w fun e w' => e = .returned (.bool true) ∧ G w w') := fun w => by
    have t := rfield93 f ⟨#[97]⟩ 68 100 i.d w (by decide)
    rw [hF] at hD
    rw [show flB f.rg (⟨#[97]⟩ : ByteArray).data.toList 68 100 i.d = true from hD] at t
    exact t
  have HA : Hid (∀ w, Calls Tryz.prog 93 #[fnhV f, .string ⟨#[97]⟩, .int .u8 65, .int .u8 97, .int .i64 i.a] w fun e w' => e = .returned (.bool true) ∧ G w w') := fun w => by
    have t := rfield93 f ⟨#[97]⟩ 65 97 i.a w (by decide)
    rw [hF] at hA
    rw [show flB f.rg (⟨#[97]⟩ : ByteArray).data.toList 65 97 i.a = true from hA] at t
    exact t
  have HB : Hid (∀ w, Calls Tryz.prog 93 #[fnhV f, .string ⟨#[97]⟩, .int .u8 66, .int .u8 98, .int .i64 i.b] w fun e w' => e = .returned (.bool true) ∧ G w w') := fun w => by
    have t := rfield93 f ⟨#[97]⟩ 66 98 i.b w (by decide)
    rw [hF] at hB
    rw [show flB f.rg (⟨#[97]⟩ : ByteArray).data.toList 66 98 i.b = true from hB] at t
    exact t
  have H78 : Hid (∀ w, Calls Tryz.prog 94 #[.string ⟨#[97]⟩, .int .u8 78] w fun e w' => e = .returned (.bool false) ∧ w' = w) := fun w => rhas94 ⟨#[97]⟩ 78 w (by decide)
  have H83 : Hid (∀ w, Calls Tryz.prog 94 #[.string ⟨#[97]⟩, .int .u8 83] w fun e w' => e = .returned (.bool false) ∧ w' = w) := fun w => rhas94 ⟨#[97]⟩ 83 w (by decide)
  have H82 : Hid (∀ w, Calls Tryz.prog 94 #[.string ⟨#[97]⟩, .int .u8 82] w fun e w' => e = .returned (.bool false) ∧ w' = w) := fun w => rhas94 ⟨#[97]⟩ 82 w (by decide)
  have H84 : Hid (∀ w, Calls Tryz.prog 94 #[.string ⟨#[97]⟩, .int .u8 84] w fun e w' => e = .returned (.bool false) ∧ w' = w) := fun w => rhas94 ⟨#[97]⟩ 84 w (by decide)
  have H69 : Hid (∀ w, Calls Tryz.prog 94 #[.string ⟨#[97]⟩, .int .u8 69] w fun e w' => e = .returned (.bool false) ∧ w' = w) := fun w => rhas94 ⟨#[97]⟩ 69 w (by decide)
  have HRG : Hid (∀ y w, Calls Tryz.prog 95 #[fnhV f, .int .i64 y] w fun e w' => e = .returned (.bool (rgB f.rg y)) ∧ G w w') := fun y w => rreg95 f y w
  have HBX : Hid (Bx2 w ((w.alloc (.cells #[.string f.nm, .int .i64 f.pa, .int .i64 f.rg, .int .i64 f.fr, .slice f.ba f.bl f.bc] 27)).alloc (.cells #[.int .i64 i.op, .int .i64 i.d, .int .i64 i.a, .int .i64 i.b, .int .i64 i.n, .string i.nm, .slice i.ar i.gs.length i.ac, .int .i64 i.to, .int .i64 i.el] 54)) f i i.gs.length) := bx2 w f i _
  have HBE : Hid (i.nm.toList.isEmpty = i.nm.data.toList.isEmpty) := ba_empty i.nm
  have HGE : Hid (i.gs.isEmpty = decide (i.gs.length = 0)) := by show _ = _; rw [Bool.eq_iff_iff]; simp
  rw [HGE.out] at HV
  unfold fnhV inV at *
  obtain ⟨al, hal⟩ : ∃ al, al = i.gs.length := ⟨_, rfl⟩
  have HL : Hid (al = i.gs.length) := hal
  rw [← hal] at hac HBX HV ⊢
  clear hal hAr hk hF hD hA hB HGE
  generalize fdR f i = R at *
  generalize hE : i.nm.data.toList.isEmpty = E at *
  clear hE
  go_enter Tryz.func63, Tryz.ntmps63
  go_wp2_with (first | (go_at_call 92; refine (HF.out _).mono ?_; rintro e w0 ⟨rfl, rfl⟩))
  refine (HD.out _).mono ?_
  rintro e w1 ⟨rfl, hg1⟩
  have HX1 : Hid (Bx2 w w1 f i al) := HBX.out.to hg1
  clear hg1
  obtain ⟨-, -, a0, a1, a2, a3, a4, b0, b1, b2, b3, b4, b5, b6, b7, b8⟩ := HX1.out
  go_wp2_with fail
  refine (HA.out _).mono ?_
  rintro e w2 ⟨rfl, hg2⟩
  have HX2 : Hid (Bx2 w w2 f i al) := HX1.out.to hg2
  clear hg2
  clear a0 a1 a2 a3 a4 b0 b1 b2 b3 b4 b5 b6 b7 b8
  obtain ⟨-, -, a0, a1, a2, a3, a4, b0, b1, b2, b3, b4, b5, b6, b7, b8⟩ := HX2.out
  go_wp2_with fail
  refine (HB.out _).mono ?_
  rintro e w3 ⟨rfl, hg3⟩
  have HX3 : Hid (Bx2 w w3 f i al) := HX2.out.to hg3
  clear hg3
  clear a0 a1 a2 a3 a4 b0 b1 b2 b3 b4 b5 b6 b7 b8
  obtain ⟨-, -, a0, a1, a2, a3, a4, b0, b1, b2, b3, b4, b5, b6, b7, b8⟩ := HX3.out
  clear HX1 HX2 HBX HD HA HB HF
  by_cases hn : i.n = 0
  case neg =>
    have qn : (i.n == 0) = false := by simpa using hn
    have qn2 : (i.n != 0) = true := by simpa using hn
    have HE : Hid (false = R) := by show _ = _; rw [HV.out]; simp [*]
    go_wp2_with (first | (go_at_call 94; (first | (with_reducible refine (H78.out _).mono ?_) | (with_reducible refine (H83.out _).mono ?_) | (with_reducible refine (H82.out _).mono ?_) | (with_reducible refine (H84.out _).mono ?_) | (with_reducible refine (H69.out _).mono ?_)); rintro e wn ⟨rfl, rfl⟩))
    all_goals go_ret
    all_goals exact ⟨ret_bool HE.out, HX3.out.g⟩
  have qn : (i.n == 0) = true := by simpa using hn
  have qn2 : (i.n != 0) = false := by simpa using hn
  clear hn
  by_cases hs : E = true
  case neg =>
    have hs2 : E = false := by simpa using hs
    have qs : i.nm.toList.isEmpty = false := HBE.out.trans hs2
    have HE : Hid (false = R) := by show _ = _; rw [HV.out]; simp [*]
    go_wp2_with (first | (go_at_call 94; (first | (with_reducible refine (H78.out _).mono ?_) | (with_reducible refine (H83.out _).mono ?_) | (with_reducible refine (H82.out _).mono ?_) | (with_reducible refine (H84.out _).mono ?_) | (with_reducible refine (H69.out _).mono ?_)); rintro e wn ⟨rfl, rfl⟩))
    all_goals go_ret
    all_goals exact ⟨ret_bool HE.out, HX3.out.g⟩
  have qs : i.nm.toList.isEmpty = true := HBE.out.trans hs
  by_cases hr : al = 0
  case neg =>
    have qr : decide (al = 0) = false := by simpa using hr
    have qr2 : 0 < al := by omega
    have HE : Hid (false = R) := by show _ = _; rw [HV.out]; simp [*]
    go_wp2_with (first | (go_at_call 94; (first | (with_reducible refine (H78.out _).mono ?_) | (with_reducible refine (H83.out _).mono ?_) | (with_reducible refine (H82.out _).mono ?_) | (with_reducible refine (H84.out _).mono ?_) | (with_reducible refine (H69.out _).mono ?_)); rintro e wn ⟨rfl, rfl⟩))
    all_goals go_ret
    all_goals exact ⟨ret_bool HE.out, HX3.out.g⟩
  have qr : decide (al = 0) = true := by simpa using hr
  have qr2 : ¬ 0 < al := by omega
  have HR0 : Hid (al = 0) := hr
  clear hr
  by_cases ht : i.to = 0
  case neg =>
    have qt : (i.to == 0) = false := by simpa using ht
    have qt2 : (i.to != 0) = true := by simpa using ht
    have HE : Hid (false = R) := by show _ = _; rw [HV.out]; simp [*]
    go_wp2_with (first | (go_at_call 94; (first | (with_reducible refine (H78.out _).mono ?_) | (with_reducible refine (H83.out _).mono ?_) | (with_reducible refine (H82.out _).mono ?_) | (with_reducible refine (H84.out _).mono ?_) | (with_reducible refine (H69.out _).mono ?_)); rintro e wn ⟨rfl, rfl⟩))
    all_goals go_ret
    all_goals exact ⟨ret_bool HE.out, HX3.out.g⟩
  have qt : (i.to == 0) = true := by simpa using ht
  have qt2 : (i.to != 0) = false := by simpa using ht
  have ht0 : 0 ≤ i.to := by omega
  clear ht
  by_cases he : i.el = 0
  case neg =>
    have qe : (i.el == 0) = false := by simpa using he
    have qe2 : (i.el != 0) = true := by simpa using he
    have HE : Hid (false = R) := by show _ = _; rw [HV.out]; simp [*]
    go_wp2_with (first | (go_at_call 94; (first | (with_reducible refine (H78.out _).mono ?_) | (with_reducible refine (H83.out _).mono ?_) | (with_reducible refine (H82.out _).mono ?_) | (with_reducible refine (H84.out _).mono ?_) | (with_reducible refine (H69.out _).mono ?_)); rintro e wn ⟨rfl, rfl⟩))
    all_goals go_ret
    all_goals exact ⟨ret_bool HE.out, HX3.out.g⟩
  have qe : (i.el == 0) = true := by simpa using he
  have qe2 : (i.el != 0) = false := by simpa using he
  have he0 : 0 ≤ i.el := by omega
  clear he
  have HGS : Hid (i.gs = []) := List.length_eq_zero_iff.1 (HL.out.symm.trans HR0.out)
  have HE : Hid (true = R) := by show _ = _; rw [HV.out, HGS.out]; simp [*]
  clear HV
  go_wp2_with (first | (go_at_call 94; (first | (with_reducible refine (H78.out _).mono ?_) | (with_reducible refine (H83.out _).mono ?_) | (with_reducible refine (H82.out _).mono ?_) | (with_reducible refine (H84.out _).mono ?_) | (with_reducible refine (H69.out _).mono ?_)); rintro e wn ⟨rfl, rfl⟩))
  clear H78 H83 H82 H84 H69
  go_loopw [8] (fun v wx => ∃ j : Nat, j ≤ al ∧ v = .int .i64 j ∧ G wn wx) (fun v _ => al - (intOf v).toNat)
  case atStart => exact ⟨0, Nat.zero_le _, rfl, G.refl _⟩
  case round =>
    obtain ⟨j, hj, rfl, hGx⟩ := hrel
    have HX4 : Hid (Bx2 w wr f i al) := HX3.out.to hGx
    clear hGx
    clear a0 a1 a2 a3 a4 b0 b1 b2 b3 b4 b5 b6 b7 b8
    obtain ⟨-, -, a0, a1, a2, a3, a4, b0, b1, b2, b3, b4, b5, b6, b7, b8⟩ := HX4.out
    obtain rfl : j = al := by have := HR0.out; omega
    go_wp2
    go_ret
    exact ⟨ret_bool HE.out, HX4.out.g⟩
theorem rf_11 (f : Fnh) (i : Ins) (w : World) (hk : i.op = 11) (hAr : ArA w i.ar i.ac i.gs) (hD : flB f.rg (fmL i.op) 68 100 i.d = true) (hA : flB f.rg (fmL i.op) 65 97 i.a = true) (hB : flB f.rg (fmL i.op) 66 98 i.b = true) : Calls Tryz.prog 63 #[fnhV f, inV i] w fun e w' => e = .returned (.bool (fdR f i)) ∧ G w w' := by
  have hF : fmL i.op = [78] := by rw [hk]; rfl
  have HV : Hid (fdR f i = (i.nm.data.toList.isEmpty && (i.gs.isEmpty && ((i.to == 0) && ((i.el == 0) && i.gs.all (rgB f.rg)))))) := by
    show _ = _
    unfold fdR
    rw [hD, hA, hB, hF]
    rfl
  have HAr : Hid (ArA w i.ar i.ac i.gs) := hAr
  have hac := hAr.1
  have hac2 := hAr.2.1
  have HF : Hid (∀ w, Calls Tryz.prog 92 #[.int .i64 i.op] w fun e w' => e = .returned (.string ⟨#[78]⟩) ∧ w' = w) := fun w => by
    have t := rform92 i.op w
    rw [hF] at t
    exact t
  have HD : Hid (∀ w, Calls Tryz.prog 93 #[fnhV f, .string ⟨#[78]⟩, .int .u8 68, .int .u8 100, .int .i64 i.d] w fun e w' => e = .returned (.bool true) ∧ G w w') := fun w => by
    have t := rfield93 f ⟨#[78]⟩ 68 100 i.d w (by decide)
    rw [hF] at hD
    rw [show flB f.rg (⟨#[78]⟩ : ByteArray).data.toList 68 100 i.d = true from hD] at t
    exact t
  have HA : Hid (∀ w, Calls Tryz.prog 93 #[fnhV f, .string ⟨#[78]⟩, .int .u8 65, .int .u8 97, .int .i64 i.a] w fun e w' => e = .returned (.bool true) ∧ G w w') := fun w => by
    have t := rfield93 f ⟨#[78]⟩ 65 97 i.a w (by decide)
    rw [hF] at hA
    rw [show flB f.rg (⟨#[78]⟩ : ByteArray).data.toList 65 97 i.a = true from hA] at t
    exact t
  have HB : Hid (∀ w, Calls Tryz.prog 93 #[fnhV f, .string ⟨#[78]⟩, .int .u8 66, .int .u8 98, .int .i64 i.b] w fun e w' => e = .returned (.bool true) ∧ G w w') := fun w => by
    have t := rfield93 f ⟨#[78]⟩ 66 98 i.b w (by decide)
    rw [hF] at hB
    rw [show flB f.rg (⟨#[78]⟩ : ByteArray).data.toList 66 98 i.b = true from hB] at t
    exact t
  have H78 : Hid (∀ w, Calls Tryz.prog 94 #[.string ⟨#[78]⟩, .int .u8 78] w fun e w' => e = .returned (.bool true) ∧ w' = w) := fun w => rhas94 ⟨#[78]⟩ 78 w (by decide)
  have H83 : Hid (∀ w, Calls Tryz.prog 94 #[.string ⟨#[78]⟩, .int .u8 83] w fun e w' => e = .returned (.bool false) ∧ w' = w) := fun w => rhas94 ⟨#[78]⟩ 83 w (by decide)
  have H82 : Hid (∀ w, Calls Tryz.prog 94 #[.string ⟨#[78]⟩, .int .u8 82] w fun e w' => e = .returned (.bool false) ∧ w' = w) := fun w => rhas94 ⟨#[78]⟩ 82 w (by decide)
  have H84 : Hid (∀ w, Calls Tryz.prog 94 #[.string ⟨#[78]⟩, .int .u8 84] w fun e w' => e = .returned (.bool false) ∧ w' = w) := fun w => rhas94 ⟨#[78]⟩ 84 w (by decide)
  have H69 : Hid (∀ w, Calls Tryz.prog 94 #[.string ⟨#[78]⟩, .int .u8 69] w fun e w' => e = .returned (.bool false) ∧ w' = w) := fun w => rhas94 ⟨#[78]⟩ 69 w (by decide)
  have HRG : Hid (∀ y w, Calls Tryz.prog 95 #[fnhV f, .int .i64 y] w fun e w' => e = .returned (.bool (rgB f.rg y)) ∧ G w w') := fun y w => rreg95 f y w
  have HBX : Hid (Bx2 w ((w.alloc (.cells #[.string f.nm, .int .i64 f.pa, .int .i64 f.rg, .int .i64 f.fr, .slice f.ba f.bl f.bc] 27)).alloc (.cells #[.int .i64 i.op, .int .i64 i.d, .int .i64 i.a, .int .i64 i.b, .int .i64 i.n, .string i.nm, .slice i.ar i.gs.length i.ac, .int .i64 i.to, .int .i64 i.el] 54)) f i i.gs.length) := bx2 w f i _
  have HBE : Hid (i.nm.toList.isEmpty = i.nm.data.toList.isEmpty) := ba_empty i.nm
  have HGE : Hid (i.gs.isEmpty = decide (i.gs.length = 0)) := by show _ = _; rw [Bool.eq_iff_iff]; simp
  rw [HGE.out] at HV
  unfold fnhV inV at *
  obtain ⟨al, hal⟩ : ∃ al, al = i.gs.length := ⟨_, rfl⟩
  have HL : Hid (al = i.gs.length) := hal
  rw [← hal] at hac HBX HV ⊢
  clear hal hAr hk hF hD hA hB HGE
  generalize fdR f i = R at *
  generalize hE : i.nm.data.toList.isEmpty = E at *
  clear hE
  go_enter Tryz.func63, Tryz.ntmps63
  go_wp2_with (first | (go_at_call 92; refine (HF.out _).mono ?_; rintro e w0 ⟨rfl, rfl⟩))
  refine (HD.out _).mono ?_
  rintro e w1 ⟨rfl, hg1⟩
  have HX1 : Hid (Bx2 w w1 f i al) := HBX.out.to hg1
  clear hg1
  obtain ⟨-, -, a0, a1, a2, a3, a4, b0, b1, b2, b3, b4, b5, b6, b7, b8⟩ := HX1.out
  go_wp2_with fail
  refine (HA.out _).mono ?_
  rintro e w2 ⟨rfl, hg2⟩
  have HX2 : Hid (Bx2 w w2 f i al) := HX1.out.to hg2
  clear hg2
  clear a0 a1 a2 a3 a4 b0 b1 b2 b3 b4 b5 b6 b7 b8
  obtain ⟨-, -, a0, a1, a2, a3, a4, b0, b1, b2, b3, b4, b5, b6, b7, b8⟩ := HX2.out
  go_wp2_with fail
  refine (HB.out _).mono ?_
  rintro e w3 ⟨rfl, hg3⟩
  have HX3 : Hid (Bx2 w w3 f i al) := HX2.out.to hg3
  clear hg3
  clear a0 a1 a2 a3 a4 b0 b1 b2 b3 b4 b5 b6 b7 b8
  obtain ⟨-, -, a0, a1, a2, a3, a4, b0, b1, b2, b3, b4, b5, b6, b7, b8⟩ := HX3.out
  clear HX1 HX2 HBX HD HA HB HF
  by_cases hs : E = true
  case neg =>
    have hs2 : E = false := by simpa using hs
    have qs : i.nm.toList.isEmpty = false := HBE.out.trans hs2
    have HE : Hid (false = R) := by show _ = _; rw [HV.out]; simp [*]
    go_wp2_with (first | (go_at_call 94; (first | (with_reducible refine (H78.out _).mono ?_) | (with_reducible refine (H83.out _).mono ?_) | (with_reducible refine (H82.out _).mono ?_) | (with_reducible refine (H84.out _).mono ?_) | (with_reducible refine (H69.out _).mono ?_)); rintro e wn ⟨rfl, rfl⟩))
    all_goals go_ret
    all_goals exact ⟨ret_bool HE.out, HX3.out.g⟩
  have qs : i.nm.toList.isEmpty = true := HBE.out.trans hs
  by_cases hr : al = 0
  case neg =>
    have qr : decide (al = 0) = false := by simpa using hr
    have qr2 : 0 < al := by omega
    have HE : Hid (false = R) := by show _ = _; rw [HV.out]; simp [*]
    go_wp2_with (first | (go_at_call 94; (first | (with_reducible refine (H78.out _).mono ?_) | (with_reducible refine (H83.out _).mono ?_) | (with_reducible refine (H82.out _).mono ?_) | (with_reducible refine (H84.out _).mono ?_) | (with_reducible refine (H69.out _).mono ?_)); rintro e wn ⟨rfl, rfl⟩))
    all_goals go_ret
    all_goals exact ⟨ret_bool HE.out, HX3.out.g⟩
  have qr : decide (al = 0) = true := by simpa using hr
  have qr2 : ¬ 0 < al := by omega
  have HR0 : Hid (al = 0) := hr
  clear hr
  by_cases ht : i.to = 0
  case neg =>
    have qt : (i.to == 0) = false := by simpa using ht
    have qt2 : (i.to != 0) = true := by simpa using ht
    have HE : Hid (false = R) := by show _ = _; rw [HV.out]; simp [*]
    go_wp2_with (first | (go_at_call 94; (first | (with_reducible refine (H78.out _).mono ?_) | (with_reducible refine (H83.out _).mono ?_) | (with_reducible refine (H82.out _).mono ?_) | (with_reducible refine (H84.out _).mono ?_) | (with_reducible refine (H69.out _).mono ?_)); rintro e wn ⟨rfl, rfl⟩))
    all_goals go_ret
    all_goals exact ⟨ret_bool HE.out, HX3.out.g⟩
  have qt : (i.to == 0) = true := by simpa using ht
  have qt2 : (i.to != 0) = false := by simpa using ht
  have ht0 : 0 ≤ i.to := by omega
  clear ht
  by_cases he : i.el = 0
  case neg =>
    have qe : (i.el == 0) = false := by simpa using he
    have qe2 : (i.el != 0) = true := by simpa using he
    have HE : Hid (false = R) := by show _ = _; rw [HV.out]; simp [*]
    go_wp2_with (first | (go_at_call 94; (first | (with_reducible refine (H78.out _).mono ?_) | (with_reducible refine (H83.out _).mono ?_) | (with_reducible refine (H82.out _).mono ?_) | (with_reducible refine (H84.out _).mono ?_) | (with_reducible refine (H69.out _).mono ?_)); rintro e wn ⟨rfl, rfl⟩))
    all_goals go_ret
    all_goals exact ⟨ret_bool HE.out, HX3.out.g⟩
  have qe : (i.el == 0) = true := by simpa using he
  have qe2 : (i.el != 0) = false := by simpa using he
  have he0 : 0 ≤ i.el := by omega
  clear he
  have HGS : Hid (i.gs = []) := List.length_eq_zero_iff.1 (HL.out.symm.trans HR0.out)
  have HE : Hid (true = R) := by show _ = _; rw [HV.out, HGS.out]; simp [*]
  clear HV
  go_wp2_with (first | (go_at_call 94; (first | (with_reducible refine (H78.out _).mono ?_) | (with_reducible refine (H83.out _).mono ?_) | (with_reducible refine (H82.out _).mono ?_) | (with_reducible refine (H84.out _).mono ?_) | (with_reducible refine (H69.out _).mono ?_)); rintro e wn ⟨rfl, rfl⟩))
  clear H78 H83 H82 H84 H69
  go_loopw [8] (fun v wx => ∃ j : Nat, j ≤ al ∧ v = .int .i64 j ∧ G wn wx) (fun v _ => al - (intOf v).toNat)
  case atStart => exact ⟨0, Nat.zero_le _, rfl, G.refl _⟩
  case round =>
    obtain ⟨j, hj, rfl, hGx⟩ := hrel
    have HX4 : Hid (Bx2 w wr f i al) := HX3.out.to hGx
    clear hGx
    clear a0 a1 a2 a3 a4 b0 b1 b2 b3 b4 b5 b6 b7 b8
    obtain ⟨-, -, a0, a1, a2, a3, a4, b0, b1, b2, b3, b4, b5, b6, b7, b8⟩ := HX4.out
    obtain rfl : j = al := by have := HR0.out; omega
    go_wp2
    go_ret
    exact ⟨ret_bool HE.out, HX4.out.g⟩
end
section
open Go.RowKit Go.Shelf
theorem fmL_ne {k : Int} (h : fmL k ≠ []) : 1 ≤ k ∧ k ≤ 11 := by
  by_cases h1 : 1 ≤ k ∧ k ≤ 11
  · exact h1
  · exfalso
    apply h
    unfold fmL
    rw [if_neg (by omega), if_neg (by omega), if_neg (by omega), if_neg (by omega), if_neg (by omega), if_neg (by omega), if_neg (by omega), if_neg (by omega), if_neg (by omega), if_neg (by omega), if_neg (by omega)]
theorem rfields63 (f : Fnh) (i : Ins) (w : World) (hAr : ArA w i.ar i.ac i.gs) : Calls Tryz.prog 63 #[fnhV f, inV i] w fun e w' => e = .returned (.bool (fdR f i)) ∧ G w w' := by
  by_cases h0 : fmL i.op = []
  · have hv : fdR f i = false := by unfold fdR; rw [h0]; rfl
    rw [hv]
    exact rf_none f i w h0
  by_cases h1 : flB f.rg (fmL i.op) 68 100 i.d = false ∨ flB f.rg (fmL i.op) 65 97 i.a = false ∨ flB f.rg (fmL i.op) 66 98 i.b = false
  · have hv : fdR f i = false := by
      unfold fdR
      rcases h1 with h | h | h <;> rw [h] <;> simp
    rw [hv]
    exact rf_early f i w h0 h1
  have hD : flB f.rg (fmL i.op) 68 100 i.d = true := by simp at h1; exact h1.1
  have hA : flB f.rg (fmL i.op) 65 97 i.a = true := by simp at h1; exact h1.2.1
  have hB : flB f.rg (fmL i.op) 66 98 i.b = true := by simp at h1; exact h1.2.2
  have hk := fmL_ne h0
  obtain h | h | h | h | h | h | h | h | h | h | h : i.op = 1 ∨ i.op = 2 ∨ i.op = 3 ∨ i.op = 4 ∨ i.op = 5 ∨ i.op = 6 ∨ i.op = 7 ∨ i.op = 8 ∨ i.op = 9 ∨ i.op = 10 ∨ i.op = 11 := by omega
  · exact rf_1 f i w h hAr hD hA hB
  · exact rf_2 f i w h hAr hD hA hB
  · exact rf_3 f i w h hAr hD hA hB
  · exact rf_4 f i w h hAr hD hA hB
  · exact rf_5 f i w h hAr hD hA hB
  · exact rf_6 f i w h hAr hD hA hB
  · exact rf_7 f i w h hAr hD hA hB
  · exact rf_8 f i w h hAr hD hA hB
  · exact rf_9 f i w h hAr hD hA hB
  · exact rf_10 f i w h hAr hD hA hB
  · exact rf_11 f i w h hAr hD hA hB
end
section
open Go.RowKit Go.Shelf
set_option maxHeartbeats 4000000
/-- Is an instruction right by the document? -/
def inR (f : Fnh) (i : Ins) : Bool := fdR f i && (nuR f.fr i.op i.n i.nm.data.toList && caR i.op i.nm.data.toList i.gs.length)
theorem rg_bel (rg : Int) : (fun y => belB y true rg) = rgB rg := by
  funext y
  unfold belB rgB
  rfl
theorem isE (l : List Int) : l.isEmpty = decide (l.length = 0) := by rw [Bool.eq_iff_iff]; simp
theorem inR_eq (f : Fnh) (i : Ins) : inR f i = insB f i (frS i.op) none := by
  by_cases h : 1 ≤ i.op ∧ i.op ≤ 11
  · have hg := rg_bel f.rg
    have hE := isE i.gs
    unfold inR insB fdR
    rw [hg]
    obtain ⟨a1, a2⟩ := h
    obtain h | h | h | h | h | h | h | h | h | h | h : i.op = 1 ∨ i.op = 2 ∨ i.op = 3 ∨ i.op = 4 ∨ i.op = 5 ∨ i.op = 6 ∨ i.op = 7 ∨ i.op = 8 ∨ i.op = 9 ∨ i.op = 10 ∨ i.op = 11 := by omega
    all_goals
      have e1 : decide ((1 : Int) ≤ i.op) = true := by simpa using a1
      have e2 : decide (i.op ≤ (11 : Int)) = true := by simpa using a2
      rw [e1, e2, h, hE]
      generalize i.gs.all (rgB f.rg) = AL
      try rw [show frS 1 = ⟨#[68, 78]⟩ from rfl]
      try rw [show frS 2 = ⟨#[68, 65]⟩ from rfl]
      try rw [show frS 3 = ⟨#[68, 83, 65, 66]⟩ from rfl]
      try rw [show frS 4 = ⟨#[68, 65, 78]⟩ from rfl]
      try rw [show frS 5 = ⟨#[65, 78, 66]⟩ from rfl]
      try rw [show frS 6 = ⟨#[68, 78]⟩ from rfl]
      try rw [show frS 7 = ⟨#[68, 83, 82]⟩ from rfl]
      try rw [show frS 8 = ⟨#[84]⟩ from rfl]
      try rw [show frS 9 = ⟨#[65, 84, 69]⟩ from rfl]
      try rw [show frS 10 = ⟨#[65]⟩ from rfl]
      try rw [show frS 11 = ⟨#[78]⟩ from rfl]
      rw [Bool.eq_iff_iff]
      simp [hsB, Lib.indexByte, fmL, flB, belB, rgB, toR, numB, nanB, nuR, caR, calB]
      try grind
  · have h1 : fdR f i = false := by
      unfold fdR
      have : fmL i.op = [] := by
        by_cases h0 : fmL i.op = []
        · exact h0
        · exfalso
          apply h0
          unfold fmL
          rw [if_neg (by omega), if_neg (by omega), if_neg (by omega), if_neg (by omega), if_neg (by omega), if_neg (by omega), if_neg (by omega), if_neg (by omega), if_neg (by omega), if_neg (by omega), if_neg (by omega)]
      rw [this]
      rfl
    have h2 : (decide (1 ≤ i.op) && decide (i.op ≤ 11)) = false := by
      rw [Bool.eq_false_iff]
      intro t
      simp at t
      exact h t
    unfold inR insB
    rw [h1, h2]
    rfl
end
end Go.Proofs.YtdppoblbenbafaaGreatDoor

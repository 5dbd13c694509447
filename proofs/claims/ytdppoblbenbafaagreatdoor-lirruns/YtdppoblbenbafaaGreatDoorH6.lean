/- An instruction, looked at: one way. -/
import Derived.Test.YtdppoblbenbafaaGreatDoorYAE
namespace Go.Proofs.YtdppoblbenbafaaGreatDoor
open Go.RowKit Go.Shelf
set_option maxRecDepth 100000
set_option maxHeartbeats 8000000
theorem insp_8 (f : Fnh) (i : Ins) (k m : Nat) (po : Option Nat) (F : ByteArray) (w : World) (hop : i.op = k) (k1 : 1 ≤ k) (k2 : k ≤ 11) (hF : w.cell? ⟨0, k * 2 + 1, none⟩ = some (.string F)) (h0 : 0 < w.heap.size) (hA : ArA w i.ar i.ac i.gs) (hG : ∀ y ∈ i.gs, belB y true f.rg = true) (e7 : ((k : Int) == 7) = true) (ed : (i.d == -1) = false) (x1 : belB i.d (hsB F 68) f.rg = true) (e10 : ((k : Int) == 10) = false) (x2 : belB i.a (hsB F 65) f.rg = true) (x3 : belB i.b (hsB F 66) f.rg = true) (x4 : belB i.to (hsB F 84) f.bl = true) (x5 : belB i.el (hsB F 69) f.bl = false) : Calls Tryz.prog 91 #[.agg #[.map (some m), .map po], fnhV f, inV i] w fun e w' => e = .returned (.bool false) ∧ G w w' := by
  have HA : Hid (ArA w i.ar i.ac i.gs) := hA
  have HG : Hid (∀ y ∈ i.gs, belB y true f.rg = true) := hG
  have hac := hA.1
  have hac2 := hA.2.1
  unfold fnhV inV at *
  rw [hop]
  obtain ⟨al, hal⟩ : ∃ al, al = i.gs.length := ⟨_, rfl⟩
  have HL : Hid (al = i.gs.length) := hal
  rw [← hal] at hac ⊢
  clear hal hA hG hop
  go_enter Tryz.func91, Tryz.ntmps91
  go_wp2
  have HW := insBelow w f i k m po F al
  have f2 := insF2 w f i k m po F al
  go_loop [28] (fun v => ∃ j : Nat, j ≤ al ∧ v = .int .i64 j) (fun v => al - (intOf v).toNat)
  case atStart => exact ⟨0, Nat.zero_le _, rfl⟩
  case round =>
    obtain ⟨j, hj, rfl⟩ := hrel
    by_cases hlt : j < al
    · obtain ⟨g, oo, hao, hcc⟩ := (HA.out.below HW.out).2.2 (by have := HL.out; omega)
      obtain ⟨yv, hy⟩ : ∃ yv, i.gs[j]? = some yv := ⟨_, List.getElem?_eq_getElem (by have := HL.out; omega)⟩
      have hcell := hcc j yv hy
      have hB := belT (HG.out yv (List.mem_of_getElem? hy))
      clear hcc hy
      rw [hao] at *
      go_wp2_with (first | (go_at_call 126; refine (hB _).mono ?_; rintro e w' ⟨rfl, rfl⟩))
      go_round
      case rel => exact ⟨j + 1, by omega, by go_num⟩
      case measure => simp [intOf]; omega
    · obtain rfl : al = j := by omega
      go_wp2
      obtain ⟨W, eW, HGW, q00, q01, q10, q11, q12, q13, q14, q20, q21, q22, q23, q24, q25, q26, q27, q28, q30⟩ := insAll w f i k m po F al
      rw [eW]
      clear eW f2 hF h0 HW
      have h68 := has63G F 68 q30
      have b1 := belG x1 W
      have h65 := has63G F 65 q30
      have b2 := belG x2 W
      have h66 := has63G F 66 q30
      have b3 := belG x3 W
      have h84 := has63G F 84 q30
      have b4 := belG x4 W
      have h69 := has63G F 69 q30
      have b5 := belG x5 W
      refine wp_region_quiet_grown (by kernel_rfl) (by exact lex59) ?_
      try dsimp only [List.append]
      repeat (go_big_quiet_step ((first | (go_at_call 124; first | with_reducible exact h68 _ _ | with_reducible exact h65 _ _ | with_reducible exact h66 _ _ | with_reducible exact h84 _ _ | with_reducible exact h69 _ _) | (go_at_call 126; first | with_reducible exact b1 _ _ | with_reducible exact b2 _ _ | with_reducible exact b3 _ _ | with_reducible exact b4 _ _ | with_reducible exact b5 _ _))))
      refine wpQuiet_nil ?_
      intro _ hw'
      obtain ⟨⟨nq, osq⟩, hw''⟩ := hw'
      subst hw''
      go_wp2
      go_ret
      exact ⟨rfl, HGW.out.trans ⟨_, _, rfl⟩⟩
theorem insp_9 (f : Fnh) (i : Ins) (k m : Nat) (po : Option Nat) (F : ByteArray) (w : World) (hop : i.op = k) (k1 : 1 ≤ k) (k2 : k ≤ 11) (hF : w.cell? ⟨0, k * 2 + 1, none⟩ = some (.string F)) (h0 : 0 < w.heap.size) (hA : ArA w i.ar i.ac i.gs) (hG : ∀ y ∈ i.gs, belB y true f.rg = true) (e7 : ((k : Int) == 7) = true) (ed : (i.d == -1) = false) (x1 : belB i.d (hsB F 68) f.rg = true) (e10 : ((k : Int) == 10) = false) (x2 : belB i.a (hsB F 65) f.rg = true) (x3 : belB i.b (hsB F 66) f.rg = true) (x4 : belB i.to (hsB F 84) f.bl = true) (x5 : belB i.el (hsB F 69) f.bl = true) (x6 : numB f.fr k i.n = false) : Calls Tryz.prog 91 #[.agg #[.map (some m), .map po], fnhV f, inV i] w fun e w' => e = .returned (.bool false) ∧ G w w' := by
  have hN := fun W => numberRight66 f i W
  rw [hop, x6] at hN
  have HA : Hid (ArA w i.ar i.ac i.gs) := hA
  have HG : Hid (∀ y ∈ i.gs, belB y true f.rg = true) := hG
  have hac := hA.1
  have hac2 := hA.2.1
  unfold fnhV inV at *
  rw [hop]
  rw [hop] at hN
  obtain ⟨al, hal⟩ : ∃ al, al = i.gs.length := ⟨_, rfl⟩
  have HL : Hid (al = i.gs.length) := hal
  rw [← hal] at hac ⊢
  rw [← hal] at hN
  clear hal hA hG hop
  go_enter Tryz.func91, Tryz.ntmps91
  go_wp2
  have HW := insBelow w f i k m po F al
  have f2 := insF2 w f i k m po F al
  go_loop [28] (fun v => ∃ j : Nat, j ≤ al ∧ v = .int .i64 j) (fun v => al - (intOf v).toNat)
  case atStart => exact ⟨0, Nat.zero_le _, rfl⟩
  case round =>
    obtain ⟨j, hj, rfl⟩ := hrel
    by_cases hlt : j < al
    · obtain ⟨g, oo, hao, hcc⟩ := (HA.out.below HW.out).2.2 (by have := HL.out; omega)
      obtain ⟨yv, hy⟩ : ∃ yv, i.gs[j]? = some yv := ⟨_, List.getElem?_eq_getElem (by have := HL.out; omega)⟩
      have hcell := hcc j yv hy
      have hB := belT (HG.out yv (List.mem_of_getElem? hy))
      clear hcc hy
      rw [hao] at *
      go_wp2_with (first | (go_at_call 126; refine (hB _).mono ?_; rintro e w' ⟨rfl, rfl⟩))
      go_round
      case rel => exact ⟨j + 1, by omega, by go_num⟩
      case measure => simp [intOf]; omega
    · obtain rfl : al = j := by omega
      go_wp2
      obtain ⟨W, eW, HGW, q00, q01, q10, q11, q12, q13, q14, q20, q21, q22, q23, q24, q25, q26, q27, q28, q30⟩ := insAll w f i k m po F al
      rw [eW]
      clear eW f2 hF h0 HW
      have h68 := has63G F 68 q30
      have b1 := belG x1 W
      have h65 := has63G F 65 q30
      have b2 := belG x2 W
      have h66 := has63G F 66 q30
      have b3 := belG x3 W
      have h84 := has63G F 84 q30
      have b4 := belG x4 W
      have h69 := has63G F 69 q30
      have b5 := belG x5 W
      replace hN := fun n os => G.to (w := W) (n := n) (os := os) (hN _)
      refine wp_region_quiet_grown (by kernel_rfl) (by exact lex59) ?_
      try dsimp only [List.append]
      repeat (go_big_quiet_step ((first | (go_at_call 124; first | with_reducible exact h68 _ _ | with_reducible exact h65 _ _ | with_reducible exact h66 _ _ | with_reducible exact h84 _ _ | with_reducible exact h69 _ _) | (go_at_call 126; first | with_reducible exact b1 _ _ | with_reducible exact b2 _ _ | with_reducible exact b3 _ _ | with_reducible exact b4 _ _ | with_reducible exact b5 _ _) | (go_at_call 127; with_reducible exact hN _ _))))
      refine wpQuiet_nil ?_
      intro _ hw'
      obtain ⟨⟨nq, osq⟩, hw''⟩ := hw'
      subst hw''
      go_wp2
      go_ret
      exact ⟨rfl, HGW.out.trans ⟨_, _, rfl⟩⟩
theorem insp_11 (f : Fnh) (i : Ins) (k m : Nat) (po : Option Nat) (F : ByteArray) (w : World) (hop : i.op = k) (k1 : 1 ≤ k) (k2 : k ≤ 11) (hF : w.cell? ⟨0, k * 2 + 1, none⟩ = some (.string F)) (h0 : 0 < w.heap.size) (hA : ArA w i.ar i.ac i.gs) (hG : ∀ y ∈ i.gs, belB y true f.rg = true) (e7 : ((k : Int) == 7) = true) (ed : (i.d == -1) = false) (x1 : belB i.d (hsB F 68) f.rg = true) (e10 : ((k : Int) == 10) = false) (x2 : belB i.a (hsB F 65) f.rg = false) : Calls Tryz.prog 91 #[.agg #[.map (some m), .map po], fnhV f, inV i] w fun e w' => e = .returned (.bool false) ∧ G w w' := by
  have HA : Hid (ArA w i.ar i.ac i.gs) := hA
  have HG : Hid (∀ y ∈ i.gs, belB y true f.rg = true) := hG
  have hac := hA.1
  have hac2 := hA.2.1
  unfold fnhV inV at *
  rw [hop]
  obtain ⟨al, hal⟩ : ∃ al, al = i.gs.length := ⟨_, rfl⟩
  have HL : Hid (al = i.gs.length) := hal
  rw [← hal] at hac ⊢
  clear hal hA hG hop
  go_enter Tryz.func91, Tryz.ntmps91
  go_wp2
  have HW := insBelow w f i k m po F al
  have f2 := insF2 w f i k m po F al
  go_loop [28] (fun v => ∃ j : Nat, j ≤ al ∧ v = .int .i64 j) (fun v => al - (intOf v).toNat)
  case atStart => exact ⟨0, Nat.zero_le _, rfl⟩
  case round =>
    obtain ⟨j, hj, rfl⟩ := hrel
    by_cases hlt : j < al
    · obtain ⟨g, oo, hao, hcc⟩ := (HA.out.below HW.out).2.2 (by have := HL.out; omega)
      obtain ⟨yv, hy⟩ : ∃ yv, i.gs[j]? = some yv := ⟨_, List.getElem?_eq_getElem (by have := HL.out; omega)⟩
      have hcell := hcc j yv hy
      have hB := belT (HG.out yv (List.mem_of_getElem? hy))
      clear hcc hy
      rw [hao] at *
      go_wp2_with (first | (go_at_call 126; refine (hB _).mono ?_; rintro e w' ⟨rfl, rfl⟩))
      go_round
      case rel => exact ⟨j + 1, by omega, by go_num⟩
      case measure => simp [intOf]; omega
    · obtain rfl : al = j := by omega
      go_wp2
      obtain ⟨W, eW, HGW, q00, q01, q10, q11, q12, q13, q14, q20, q21, q22, q23, q24, q25, q26, q27, q28, q30⟩ := insAll w f i k m po F al
      rw [eW]
      clear eW f2 hF h0 HW
      have h68 := has63G F 68 q30
      have b1 := belG x1 W
      have h65 := has63G F 65 q30
      have b2 := belG x2 W
      refine wp_region_quiet_grown (by kernel_rfl) (by exact lex59) ?_
      try dsimp only [List.append]
      repeat (go_big_quiet_step ((first | (go_at_call 124; first | with_reducible exact h68 _ _ | with_reducible exact h65 _ _) | (go_at_call 126; first | with_reducible exact b1 _ _ | with_reducible exact b2 _ _))))
      refine wpQuiet_nil ?_
      intro _ hw'
      obtain ⟨⟨nq, osq⟩, hw''⟩ := hw'
      subst hw''
      go_wp2
      go_ret
      exact ⟨rfl, HGW.out.trans ⟨_, _, rfl⟩⟩
theorem insp_12 (f : Fnh) (i : Ins) (k m : Nat) (po : Option Nat) (F : ByteArray) (w : World) (hop : i.op = k) (k1 : 1 ≤ k) (k2 : k ≤ 11) (hF : w.cell? ⟨0, k * 2 + 1, none⟩ = some (.string F)) (h0 : 0 < w.heap.size) (hA : ArA w i.ar i.ac i.gs) (hG : ∀ y ∈ i.gs, belB y true f.rg = true) (e7 : ((k : Int) == 7) = false) (x1 : belB i.d (hsB F 68) f.rg = true) (e10 : ((k : Int) == 10) = true) (ea : (i.a == -1) = true) (x3 : belB i.b (hsB F 66) f.rg = false) : Calls Tryz.prog 91 #[.agg #[.map (some m), .map po], fnhV f, inV i] w fun e w' => e = .returned (.bool false) ∧ G w w' := by
  have HA : Hid (ArA w i.ar i.ac i.gs) := hA
  have HG : Hid (∀ y ∈ i.gs, belB y true f.rg = true) := hG
  have hac := hA.1
  have hac2 := hA.2.1
  unfold fnhV inV at *
  rw [hop]
  obtain ⟨al, hal⟩ : ∃ al, al = i.gs.length := ⟨_, rfl⟩
  have HL : Hid (al = i.gs.length) := hal
  rw [← hal] at hac ⊢
  clear hal hA hG hop
  go_enter Tryz.func91, Tryz.ntmps91
  go_wp2
  have HW := insBelow w f i k m po F al
  have f2 := insF2 w f i k m po F al
  go_loop [28] (fun v => ∃ j : Nat, j ≤ al ∧ v = .int .i64 j) (fun v => al - (intOf v).toNat)
  case atStart => exact ⟨0, Nat.zero_le _, rfl⟩
  case round =>
    obtain ⟨j, hj, rfl⟩ := hrel
    by_cases hlt : j < al
    · obtain ⟨g, oo, hao, hcc⟩ := (HA.out.below HW.out).2.2 (by have := HL.out; omega)
      obtain ⟨yv, hy⟩ : ∃ yv, i.gs[j]? = some yv := ⟨_, List.getElem?_eq_getElem (by have := HL.out; omega)⟩
      have hcell := hcc j yv hy
      have hB := belT (HG.out yv (List.mem_of_getElem? hy))
      clear hcc hy
      rw [hao] at *
      go_wp2_with (first | (go_at_call 126; refine (hB _).mono ?_; rintro e w' ⟨rfl, rfl⟩))
      go_round
      case rel => exact ⟨j + 1, by omega, by go_num⟩
      case measure => simp [intOf]; omega
    · obtain rfl : al = j := by omega
      go_wp2
      obtain ⟨W, eW, HGW, q00, q01, q10, q11, q12, q13, q14, q20, q21, q22, q23, q24, q25, q26, q27, q28, q30⟩ := insAll w f i k m po F al
      rw [eW]
      clear eW f2 hF h0 HW
      have h68 := has63G F 68 q30
      have b1 := belG x1 W
      have h66 := has63G F 66 q30
      have b3 := belG x3 W
      refine wp_region_quiet_grown (by kernel_rfl) (by exact lex59) ?_
      try dsimp only [List.append]
      repeat (go_big_quiet_step ((first | (go_at_call 124; first | with_reducible exact h68 _ _ | with_reducible exact h66 _ _) | (go_at_call 126; first | with_reducible exact b1 _ _ | with_reducible exact b3 _ _))))
      refine wpQuiet_nil ?_
      intro _ hw'
      obtain ⟨⟨nq, osq⟩, hw''⟩ := hw'
      subst hw''
      go_wp2
      go_ret
      exact ⟨rfl, HGW.out.trans ⟨_, _, rfl⟩⟩
theorem insp_13 (f : Fnh) (i : Ins) (k m : Nat) (po : Option Nat) (F : ByteArray) (w : World) (hop : i.op = k) (k1 : 1 ≤ k) (k2 : k ≤ 11) (hF : w.cell? ⟨0, k * 2 + 1, none⟩ = some (.string F)) (h0 : 0 < w.heap.size) (hA : ArA w i.ar i.ac i.gs) (hG : ∀ y ∈ i.gs, belB y true f.rg = true) (e7 : ((k : Int) == 7) = false) (x1 : belB i.d (hsB F 68) f.rg = true) (e10 : ((k : Int) == 10) = true) (ea : (i.a == -1) = true) (x3 : belB i.b (hsB F 66) f.rg = true) (x4 : belB i.to (hsB F 84) f.bl = false) : Calls Tryz.prog 91 #[.agg #[.map (some m), .map po], fnhV f, inV i] w fun e w' => e = .returned (.bool false) ∧ G w w' := by
  have HA : Hid (ArA w i.ar i.ac i.gs) := hA
  have HG : Hid (∀ y ∈ i.gs, belB y true f.rg = true) := hG
  have hac := hA.1
  have hac2 := hA.2.1
  unfold fnhV inV at *
  rw [hop]
  obtain ⟨al, hal⟩ : ∃ al, al = i.gs.length := ⟨_, rfl⟩
  have HL : Hid (al = i.gs.length) := hal
  rw [← hal] at hac ⊢
  clear hal hA hG hop
  go_enter Tryz.func91, Tryz.ntmps91
  go_wp2
  have HW := insBelow w f i k m po F al
  have f2 := insF2 w f i k m po F al
  go_loop [28] (fun v => ∃ j : Nat, j ≤ al ∧ v = .int .i64 j) (fun v => al - (intOf v).toNat)
  case atStart => exact ⟨0, Nat.zero_le _, rfl⟩
  case round =>
    obtain ⟨j, hj, rfl⟩ := hrel
    by_cases hlt : j < al
    · obtain ⟨g, oo, hao, hcc⟩ := (HA.out.below HW.out).2.2 (by have := HL.out; omega)
      obtain ⟨yv, hy⟩ : ∃ yv, i.gs[j]? = some yv := ⟨_, List.getElem?_eq_getElem (by have := HL.out; omega)⟩
      have hcell := hcc j yv hy
      have hB := belT (HG.out yv (List.mem_of_getElem? hy))
      clear hcc hy
      rw [hao] at *
      go_wp2_with (first | (go_at_call 126; refine (hB _).mono ?_; rintro e w' ⟨rfl, rfl⟩))
      go_round
      case rel => exact ⟨j + 1, by omega, by go_num⟩
      case measure => simp [intOf]; omega
    · obtain rfl : al = j := by omega
      go_wp2
      obtain ⟨W, eW, HGW, q00, q01, q10, q11, q12, q13, q14, q20, q21, q22, q23, q24, q25, q26, q27, q28, q30⟩ := insAll w f i k m po F al
      rw [eW]
      clear eW f2 hF h0 HW
      have h68 := has63G F 68 q30
      have b1 := belG x1 W
      have h66 := has63G F 66 q30
      have b3 := belG x3 W
      have h84 := has63G F 84 q30
      have b4 := belG x4 W
      refine wp_region_quiet_grown (by kernel_rfl) (by exact lex59) ?_
      try dsimp only [List.append]
      repeat (go_big_quiet_step ((first | (go_at_call 124; first | with_reducible exact h68 _ _ | with_reducible exact h66 _ _ | with_reducible exact h84 _ _) | (go_at_call 126; first | with_reducible exact b1 _ _ | with_reducible exact b3 _ _ | with_reducible exact b4 _ _))))
      refine wpQuiet_nil ?_
      intro _ hw'
      obtain ⟨⟨nq, osq⟩, hw''⟩ := hw'
      subst hw''
      go_wp2
      go_ret
      exact ⟨rfl, HGW.out.trans ⟨_, _, rfl⟩⟩
theorem insp_14 (f : Fnh) (i : Ins) (k m : Nat) (po : Option Nat) (F : ByteArray) (w : World) (hop : i.op = k) (k1 : 1 ≤ k) (k2 : k ≤ 11) (hF : w.cell? ⟨0, k * 2 + 1, none⟩ = some (.string F)) (h0 : 0 < w.heap.size) (hA : ArA w i.ar i.ac i.gs) (hG : ∀ y ∈ i.gs, belB y true f.rg = true) (e7 : ((k : Int) == 7) = false) (x1 : belB i.d (hsB F 68) f.rg = true) (e10 : ((k : Int) == 10) = true) (ea : (i.a == -1) = true) (x3 : belB i.b (hsB F 66) f.rg = true) (x4 : belB i.to (hsB F 84) f.bl = true) (x5 : belB i.el (hsB F 69) f.bl = false) : Calls Tryz.prog 91 #[.agg #[.map (some m), .map po], fnhV f, inV i] w fun e w' => e = .returned (.bool false) ∧ G w w' := by
  have HA : Hid (ArA w i.ar i.ac i.gs) := hA
  have HG : Hid (∀ y ∈ i.gs, belB y true f.rg = true) := hG
  have hac := hA.1
  have hac2 := hA.2.1
  unfold fnhV inV at *
  rw [hop]
  obtain ⟨al, hal⟩ : ∃ al, al = i.gs.length := ⟨_, rfl⟩
  have HL : Hid (al = i.gs.length) := hal
  rw [← hal] at hac ⊢
  clear hal hA hG hop
  go_enter Tryz.func91, Tryz.ntmps91
  go_wp2
  have HW := insBelow w f i k m po F al
  have f2 := insF2 w f i k m po F al
  go_loop [28] (fun v => ∃ j : Nat, j ≤ al ∧ v = .int .i64 j) (fun v => al - (intOf v).toNat)
  case atStart => exact ⟨0, Nat.zero_le _, rfl⟩
  case round =>
    obtain ⟨j, hj, rfl⟩ := hrel
    by_cases hlt : j < al
    · obtain ⟨g, oo, hao, hcc⟩ := (HA.out.below HW.out).2.2 (by have := HL.out; omega)
      obtain ⟨yv, hy⟩ : ∃ yv, i.gs[j]? = some yv := ⟨_, List.getElem?_eq_getElem (by have := HL.out; omega)⟩
      have hcell := hcc j yv hy
      have hB := belT (HG.out yv (List.mem_of_getElem? hy))
      clear hcc hy
      rw [hao] at *
      go_wp2_with (first | (go_at_call 126; refine (hB _).mono ?_; rintro e w' ⟨rfl, rfl⟩))
      go_round
      case rel => exact ⟨j + 1, by omega, by go_num⟩
      case measure => simp [intOf]; omega
    · obtain rfl : al = j := by omega
      go_wp2
      obtain ⟨W, eW, HGW, q00, q01, q10, q11, q12, q13, q14, q20, q21, q22, q23, q24, q25, q26, q27, q28, q30⟩ := insAll w f i k m po F al
      rw [eW]
      clear eW f2 hF h0 HW
      have h68 := has63G F 68 q30
      have b1 := belG x1 W
      have h66 := has63G F 66 q30
      have b3 := belG x3 W
      have h84 := has63G F 84 q30
      have b4 := belG x4 W
      have h69 := has63G F 69 q30
      have b5 := belG x5 W
      refine wp_region_quiet_grown (by kernel_rfl) (by exact lex59) ?_
      try dsimp only [List.append]
      repeat (go_big_quiet_step ((first | (go_at_call 124; first | with_reducible exact h68 _ _ | with_reducible exact h66 _ _ | with_reducible exact h84 _ _ | with_reducible exact h69 _ _) | (go_at_call 126; first | with_reducible exact b1 _ _ | with_reducible exact b3 _ _ | with_reducible exact b4 _ _ | with_reducible exact b5 _ _))))
      refine wpQuiet_nil ?_
      intro _ hw'
      obtain ⟨⟨nq, osq⟩, hw''⟩ := hw'
      subst hw''
      go_wp2
      go_ret
      exact ⟨rfl, HGW.out.trans ⟨_, _, rfl⟩⟩
theorem insp_15 (f : Fnh) (i : Ins) (k m : Nat) (po : Option Nat) (F : ByteArray) (w : World) (hop : i.op = k) (k1 : 1 ≤ k) (k2 : k ≤ 11) (hF : w.cell? ⟨0, k * 2 + 1, none⟩ = some (.string F)) (h0 : 0 < w.heap.size) (hA : ArA w i.ar i.ac i.gs) (hG : ∀ y ∈ i.gs, belB y true f.rg = true) (e7 : ((k : Int) == 7) = false) (x1 : belB i.d (hsB F 68) f.rg = true) (e10 : ((k : Int) == 10) = true) (ea : (i.a == -1) = true) (x3 : belB i.b (hsB F 66) f.rg = true) (x4 : belB i.to (hsB F 84) f.bl = true) (x5 : belB i.el (hsB F 69) f.bl = true) (x6 : numB f.fr k i.n = false) : Calls Tryz.prog 91 #[.agg #[.map (some m), .map po], fnhV f, inV i] w fun e w' => e = .returned (.bool false) ∧ G w w' := by
  have hN := fun W => numberRight66 f i W
  rw [hop, x6] at hN
  have HA : Hid (ArA w i.ar i.ac i.gs) := hA
  have HG : Hid (∀ y ∈ i.gs, belB y true f.rg = true) := hG
  have hac := hA.1
  have hac2 := hA.2.1
  unfold fnhV inV at *
  rw [hop]
  rw [hop] at hN
  obtain ⟨al, hal⟩ : ∃ al, al = i.gs.length := ⟨_, rfl⟩
  have HL : Hid (al = i.gs.length) := hal
  rw [← hal] at hac ⊢
  rw [← hal] at hN
  clear hal hA hG hop
  go_enter Tryz.func91, Tryz.ntmps91
  go_wp2
  have HW := insBelow w f i k m po F al
  have f2 := insF2 w f i k m po F al
  go_loop [28] (fun v => ∃ j : Nat, j ≤ al ∧ v = .int .i64 j) (fun v => al - (intOf v).toNat)
  case atStart => exact ⟨0, Nat.zero_le _, rfl⟩
  case round =>
    obtain ⟨j, hj, rfl⟩ := hrel
    by_cases hlt : j < al
    · obtain ⟨g, oo, hao, hcc⟩ := (HA.out.below HW.out).2.2 (by have := HL.out; omega)
      obtain ⟨yv, hy⟩ : ∃ yv, i.gs[j]? = some yv := ⟨_, List.getElem?_eq_getElem (by have := HL.out; omega)⟩
      have hcell := hcc j yv hy
      have hB := belT (HG.out yv (List.mem_of_getElem? hy))
      clear hcc hy
      rw [hao] at *
      go_wp2_with (first | (go_at_call 126; refine (hB _).mono ?_; rintro e w' ⟨rfl, rfl⟩))
      go_round
      case rel => exact ⟨j + 1, by omega, by go_num⟩
      case measure => simp [intOf]; omega
    · obtain rfl : al = j := by omega
      go_wp2
      obtain ⟨W, eW, HGW, q00, q01, q10, q11, q12, q13, q14, q20, q21, q22, q23, q24, q25, q26, q27, q28, q30⟩ := insAll w f i k m po F al
      rw [eW]
      clear eW f2 hF h0 HW
      have h68 := has63G F 68 q30
      have b1 := belG x1 W
      have h66 := has63G F 66 q30
      have b3 := belG x3 W
      have h84 := has63G F 84 q30
      have b4 := belG x4 W
      have h69 := has63G F 69 q30
      have b5 := belG x5 W
      replace hN := fun n os => G.to (w := W) (n := n) (os := os) (hN _)
      refine wp_region_quiet_grown (by kernel_rfl) (by exact lex59) ?_
      try dsimp only [List.append]
      repeat (go_big_quiet_step ((first | (go_at_call 124; first | with_reducible exact h68 _ _ | with_reducible exact h66 _ _ | with_reducible exact h84 _ _ | with_reducible exact h69 _ _) | (go_at_call 126; first | with_reducible exact b1 _ _ | with_reducible exact b3 _ _ | with_reducible exact b4 _ _ | with_reducible exact b5 _ _) | (go_at_call 127; with_reducible exact hN _ _))))
      refine wpQuiet_nil ?_
      intro _ hw'
      obtain ⟨⟨nq, osq⟩, hw''⟩ := hw'
      subst hw''
      go_wp2
      go_ret
      exact ⟨rfl, HGW.out.trans ⟨_, _, rfl⟩⟩
end Go.Proofs.YtdppoblbenbafaaGreatDoor

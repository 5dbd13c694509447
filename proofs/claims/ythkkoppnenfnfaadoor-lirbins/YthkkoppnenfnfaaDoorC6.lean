/- A call comes back. -/
import Derived.Test.YthkkoppnenfnfaaDoorC5
import Derived.Deep.RegionHeld3
namespace Go.Proofs.YthkkoppnenfnfaaDoor
open Go.RowKit Go.Shelf
set_option maxRecDepth 20000 in
set_option maxHeartbeats 2000000 in
theorem back44 (R C P pa ca : Nat) (wa : Option Addr) (wc : Nat) (y q : Nat) (at_ : Int) (f : List Value) (w : World) (hC : Cl w C [.slice (some ⟨y, 0, none⟩) 1 1, .slice (some ⟨q, 0, none⟩) 1 1, .int .i64 65536, .int .i64 0, .int .i64 0, .int .i64 at_, .int .i64 (-1)]) (hP : Cl w P [.int .i64 1, .int .i64 65536, .slice wa 0 wc]) (hR : Cl w R f) (hf : f.length = 13) (h3 : f[3]? = some (.slice (some ⟨C, 0, none⟩) 1 ca)) (h4 : f[4]? = some (.slice (some ⟨P, 0, none⟩) 1 pa)) (h5 : f[5]? = some (.int .i64 0)) (hne : R ≠ P) : Calls Tryd.prog 44 #[.pointer (some ⟨R, 0, none⟩), .int .i64 0] w fun e w' => e = .returned (.tuple #[]) ∧ Onl (fun b => b = R ∨ b = P) w w' ∧ Cl w' R (((((f.set 4 (.slice (some ⟨P, 0, none⟩) 0 pa)).set 5 (.int .i64 0)).set 3 (.slice (some ⟨C, 0, none⟩) 0 ca)).set 9 (.int .i64 1)).set 10 (.int .i64 0)) := by
  have hI : Hid (Calls Tryd.prog 40 #[.pointer (some ⟨R, 0, none⟩)] w fun e w' => e = .returned (.pointer (some ⟨C, 0, none⟩)) ∧ ∃ n, w' = w.drewN n) := innermost40 R C ca w (hR.cell h3)
  have HE : Hid (∀ W, Below w.heap.size w W → Calls Tryd.prog 55 #[.pointer (some ⟨R, 4, none⟩), .int .i64 1, .int .i64 65536, .int .i64 0] W fun e w' => e = .returned (.bool true) ∧ Onl (fun b => b = R ∨ b = P) W w' ∧ Cl w' R ((f.set 4 (.slice (some ⟨P, 0, none⟩) 0 pa)).set 5 (.int .i64 0))) := fun W hW => end55 R P pa wa wc f W (hP.below hW) (hR.below hW) hf h4 h5 hne
  have HC : Hid (Cl w C [.slice (some ⟨y, 0, none⟩) 1 1, .slice (some ⟨q, 0, none⟩) 1 1, .int .i64 65536, .int .i64 0, .int .i64 0, .int .i64 at_, .int .i64 (-1)]) := hC
  have HF : Hid (f.length = 13) := hf
  have H3 : Hid (f[3]? = some (.slice (some ⟨C, 0, none⟩) 1 ca)) := h3
  clear hC hP hR h3 h4 h5 hf hne
  go_enter Tryd.func44, Tryd.ntmps44
  go_wp2_with fail
  refine hI.out.mono ?_
  rintro e w1 ⟨rfl, n1, hw1⟩
  have hb1 : Below w.heap.size w w1 := by rw [hw1]; exact below_drewN (Below.refl _ _) n1
  have HB1 : Hid (Below w.heap.size w w1) := hb1
  have hC1 := HC.out.below hb1
  have k0 := hC1.cell (j := 0) rfl
  have k1 := hC1.cell (j := 1) rfl
  have k2 := hC1.cell (j := 2) rfl
  have k3 := hC1.cell (j := 3) rfl
  have k4 := hC1.cell (j := 4) rfl
  have k5 := hC1.cell (j := 5) rfl
  have k6 := hC1.cell (j := 6) rfl
  clear hw1 hb1 hC1
  go_wp2
  go_region_with (first | (go_at_call 55; refine (HE.out _ (by first | exact (HB1.out.alloc HB1.out.size _).drew | exact (HB1.out.alloc HB1.out.size _))).mono ?_; rintro e w2 ⟨rfl, ho, hc⟩; have HO : Hid (Onl (fun b => b = R ∨ b = P) w w2) := (Onl.of_below (by first | exact (HB1.out.alloc HB1.out.size _).drew | exact (HB1.out.alloc HB1.out.size _))).trans ho; have HC2 : Hid (Cl w2 R ((f.set 4 (.slice (some ⟨P, 0, none⟩) 0 pa)).set 5 (.int .i64 0))) := hc; clear ho hc))
  all_goals (
    have H3' : ((f.set 4 (.slice (some ⟨P, 0, none⟩) 0 pa)).set 5 (.int .i64 0))[3]? = some (.slice (some ⟨C, 0, none⟩) 1 ca) := by
      rw [List.getElem?_set_ne (by omega), List.getElem?_set_ne (by omega)]
      exact H3.out
    have r3 := HC2.out.cell H3'
    have z3 := HC2.out.fz 3
    clear H3'
    go_wp2
    go_region
    have HC3 : Hid (Cl ((w2.setCell ⟨R, 3, none⟩ (.slice (some ⟨C, 0, none⟩) 0 ca)).drew) R (((f.set 4 (.slice (some ⟨P, 0, none⟩) 0 pa)).set 5 (.int .i64 0)).set 3 (.slice (some ⟨C, 0, none⟩) 0 ca))) := (HC2.out.set (by have := HF.out; simp; omega) _).drew
    have HO3 : Hid (Onl (fun b => b = R ∨ b = P) w ((w2.setCell ⟨R, 3, none⟩ (.slice (some ⟨C, 0, none⟩) 0 ca)).drew)) := (HO.out.set (b := R) (.inl rfl)).trans (Onl.of_below (Below.refl _ _).drew)
    clear r3 z3 HC2 HO
    generalize (w2.setCell ⟨R, 3, none⟩ (.slice (some ⟨C, 0, none⟩) 0 ca)).drew = w3 at *
    have r3 := HC3.out.cell (j := 3) (v := .slice (some ⟨C, 0, none⟩) 0 ca) (by rw [List.getElem?_set_self (by have := HF.out; simp; omega)])
    go_wp2_with fail
    refine (end36 R 1 0 _ w3 HC3.out (by simp; exact HF.out)).mono ?_
    rintro e w4 ⟨rfl, rfl⟩
    go_wp2
    go_returns
    exact ⟨rfl, (HO3.out.set (b := R) (.inl rfl)).set (b := R) (.inl rfl), (HC3.out.set (by have := HF.out; simp; omega) _).set (by have := HF.out; simp; omega) _⟩)
end Go.Proofs.YthkkoppnenfnfaaDoor

/- Two trees the same: the law. -/
import Derived.Test.YtkkmeogehapjoaaGreatDoorZ2
import Derived.Test.YtkkmeogehapjoaaGreatDoorY13
namespace Go.Proofs.YtkkmeogehapjoaaGreatDoor
open Go.RowKit Go.Shelf
set_option maxRecDepth 100000 in
set_option maxHeartbeats 4000000 in
theorem law4 (a b : List Nd) (ao bo : Option Addr) (ac bc : Nat) (w : World) (hT : Tm w) (ha : NdS w ao ac a) (hb : NdS w bo bc b) : Calls Tryz.prog 4 #[.agg #[.slice ao a.length ac], .agg #[.slice bo b.length bc]] w fun e w' => e = .returned (.bool true) ∧ Below w.heap.size w w' := by
  have H14 : Hid (∀ W, Below w.heap.size w W → Calls Tryz.prog 14 #[.agg #[.slice ao a.length ac], .agg #[.slice bo b.length bc]] W fun e w' => e = .returned (.bool (nsEq a b)) ∧ Below W.heap.size W w') := fun W hW => same14 a b ao bo ac bc W (ha.below hW) (hb.below hW)
  have H15 : Hid (∀ W, Below w.heap.size w W → Calls Tryz.prog 15 #[.agg #[.slice ao a.length ac], .agg #[.slice bo b.length bc]] W fun e w' => e = .returned (.bool (nsEq a b)) ∧ Below W.heap.size W w') := fun W hW => rsame15 a b ao bo ac bc W (ha.below hW) (hb.below hW)
  have HS : Hid (∀ W, Below w.heap.size w W → Calls Tryz.prog 14 #[.agg #[.slice ao a.length ac], .agg #[.slice ao a.length ac]] W fun e w' => e = .returned (.bool true) ∧ Below W.heap.size W w') := fun W hW => by
    have t := same14 a a ao ao ac ac W (ha.below hW) (ha.below hW)
    rw [nsEq_refl] at t
    exact t
  have H13 : Hid (∀ W, Below w.heap.size w W → Calls Tryz.prog 13 #[] W fun e w' => e = .returned (.bool true) ∧ Below W.heap.size W w') := fun W hW => small13 W (hT.below hW)
  have HB : Hid (∀ o o', Below w.heap.size w ((w.alloc o).alloc o')) := fun o o' => ((Below.refl _ w).alloc (Nat.le_refl _) o).alloc (by simp) o'
  clear ha hb hT
  generalize nsEq a b = R at *
  generalize a.length = m at *
  generalize b.length = p at *
  go_enter Tryz.func4, Tryz.ntmps4
  go_wp2_with fail
  have g0 : ((w.alloc (.cells #[.slice ao m ac] 24)).alloc (.cells #[.slice bo p bc] 24)).cell? ⟨w.heap.size, 0, none⟩ = some (.slice ao m ac) := by simp
  have g1 : ((w.alloc (.cells #[.slice ao m ac] 24)).alloc (.cells #[.slice bo p bc] 24)).cell? ⟨w.heap.size + 1, 0, none⟩ = some (.slice bo p bc) := by simp
  have hbw := HB.out (.cells #[.slice ao m ac] 24) (.cells #[.slice bo p bc] 24)
  have hsz : w.heap.size + 1 < ((w.alloc (.cells #[.slice ao m ac] 24)).alloc (.cells #[.slice bo p bc] 24)).heap.size := by simp
  clear HB
  generalize (w.alloc (.cells #[.slice ao m ac] 24)).alloc (.cells #[.slice bo p bc] 24) = W0 at *
  have HBW : Hid (Below w.heap.size w W0) := hbw
  have HPC : Hid (∀ W, Below W0.heap.size W0 W → W.cell? ⟨w.heap.size, 0, none⟩ = some (.slice ao m ac) ∧ W.cell? ⟨w.heap.size + 1, 0, none⟩ = some (.slice bo p bc)) := fun W hW => ⟨by rw [(bcell hW).1 _ _ (by omega)]; exact g0, by rw [(bcell hW).1 _ _ hsz]; exact g1⟩
  have K14 : Hid (∀ W, Below W0.heap.size W0 W → Calls Tryz.prog 14 #[.agg #[.slice ao m ac], .agg #[.slice bo p bc]] W fun e w' => e = .returned (.bool R) ∧ Below W0.heap.size W0 w') := fun W hW => (H14.out W (hbw.trans (hW.mono hbw.size))).mono fun _ _ ⟨he, hb⟩ => ⟨he, hW.trans (hb.mono hW.size)⟩
  have K15 : Hid (∀ W, Below W0.heap.size W0 W → Calls Tryz.prog 15 #[.agg #[.slice ao m ac], .agg #[.slice bo p bc]] W fun e w' => e = .returned (.bool R) ∧ Below W0.heap.size W0 w') := fun W hW => (H15.out W (hbw.trans (hW.mono hbw.size))).mono fun _ _ ⟨he, hb⟩ => ⟨he, hW.trans (hb.mono hW.size)⟩
  have KS : Hid (∀ W, Below W0.heap.size W0 W → Calls Tryz.prog 14 #[.agg #[.slice ao m ac], .agg #[.slice ao m ac]] W fun e w' => e = .returned (.bool true) ∧ Below W0.heap.size W0 w') := fun W hW => (HS.out W (hbw.trans (hW.mono hbw.size))).mono fun _ _ ⟨he, hb⟩ => ⟨he, hW.trans (hb.mono hW.size)⟩
  have K13 : Hid (∀ W, Below W0.heap.size W0 W → Calls Tryz.prog 13 #[] W fun e w' => e = .returned (.bool true) ∧ Below W0.heap.size W0 w') := fun W hW => (H13.out W (hbw.trans (hW.mono hbw.size))).mono fun _ _ ⟨he, hb⟩ => ⟨he, hW.trans (hb.mono hW.size)⟩
  clear hbw H14 H15 HS H13
  have HZ : Hid (Below W0.heap.size W0 W0) := Below.refl _ _
  go_region_held3 (fun w' => Below W0.heap.size W0 w' ∧ w'.cell? ⟨w.heap.size, 0, none⟩ = some (.slice ao m ac) ∧ w'.cell? ⟨w.heap.size + 1, 0, none⟩ = some (.slice bo p bc)) (first | assumption | (refine ⟨?_, ?_, ?_⟩ <;> (first | assumption | (exact HZ.out) | (exact HZ.out.trans ⟨rfl, rfl, rfl, Nat.le_refl _, fun _ _ => rfl⟩) | (simp; done) | (simp; assumption)))) (first | (go_at_call 15; refine (K15.out _ (by first | exact HZ.out.trans ⟨rfl, rfl, rfl, Nat.le_refl _, fun _ _ => rfl⟩ | assumption | exact And.left (by assumption))).mono ?_; rintro e w5 ⟨rfl, hB5⟩; obtain ⟨f0, f1⟩ := HPC.out w5 hB5) | (go_at_call 13; refine (K13.out _ (by first | exact HZ.out.trans ⟨rfl, rfl, rfl, Nat.le_refl _, fun _ _ => rfl⟩ | assumption | exact And.left (by assumption))).mono ?_; rintro e w6 ⟨rfl, hB6⟩; obtain ⟨p0, p1⟩ := HPC.out w6 hB6) | (go_at_call 14; with_reducible refine (K14.out _ ?_).mono ?_; (first | exact HZ.out.trans ⟨rfl, rfl, rfl, Nat.le_refl _, fun _ _ => rfl⟩ | assumption | exact And.left (by assumption)); rintro e w4 ⟨rfl, hB4⟩; obtain ⟨e0, e1⟩ := HPC.out w4 hB4) | (go_at_call 14; with_reducible refine (KS.out _ ?_).mono ?_; (first | exact HZ.out.trans ⟨rfl, rfl, rfl, Nat.le_refl _, fun _ _ => rfl⟩ | assumption | exact And.left (by assumption)); rintro e w7 ⟨rfl, hB7⟩; obtain ⟨q0, q1⟩ := HPC.out w7 hB7))
  go_wp2
  go_ret
  exact ⟨rfl, HBW.out.trans (hB6.mono HBW.out.size)⟩
end Go.Proofs.YtkkmeogehapjoaaGreatDoor

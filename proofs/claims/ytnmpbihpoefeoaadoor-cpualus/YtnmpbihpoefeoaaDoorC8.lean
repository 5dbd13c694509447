/- Walks of the little machine: what every statement asks first. -/
import Derived.Test.YtnmpbihpoefeoaaDoorC7
namespace Go.Proofs.YtnmpbihpoefeoaaDoor
open Go.RowKit Go.Shelf
theorem page_arg {w W : World} (h : Pb w W 12) : PgArg (W.alloc (.cells #[.int .u64 4096, .int .i64 5, .slice (some ⟨w.heap.size, 0, none⟩) 4096 4096] 51)) (.slice (some ⟨W.heap.size, 0, none⟩) 1 1) 1 kF pF (fun _ => some ⟨w.heap.size, 0, none⟩) (fun _ => 4096) (fun _ => 4096) YF := by
  refine ⟨⟨_, _, rfl, Nat.le_refl _, fun _ => ⟨W.heap.size, 0, rfl, ?_⟩⟩, YF_small⟩
  have hB : Below W.heap.size W (W.alloc (.cells #[.int .u64 4096, .int .i64 5, .slice (some ⟨w.heap.size, 0, none⟩) 4096 4096] 51)) := (Below.refl _ W).alloc (Nat.le_refl _) _
  refine ⟨fun i hi => ?_, fun i hi => ?_, fun i hi => ?_, fun i hi _ => ⟨w.heap.size, 0, rfl, fun j hj => ?_⟩, YF_small, fun i hi => by unfold kF; omega⟩
  · obtain rfl : i = 0 := by omega
    simp [kF]
  · obtain rfl : i = 0 := by omega
    simp [pF]
  · obtain rfl : i = 0 := by omega
    simp
  · rw [Nat.zero_add, hB.cell (p := ⟨w.heap.size, j, none⟩) (lt_of_cell (h.cell j hj)), h.cell j hj]
    rfl
theorem c0_made : zC.toArray.setIfInBounds 0 (.int .u64 4096) = c0.toArray := rfl
theorem e33 : (ccs 4108 7 93 3 true 7)[33]? = some (.int .i64 3) := rfl
theorem e34 : (ccs 4108 7 93 3 true 7)[34]? = some (.bool true) := rfl
theorem e35 : (ccs 4108 7 93 3 true 7)[35]? = some (.int .i64 7) := rfl
theorem stored (L : List Value) (hl : L.length = 39) (w : World) : ∃ w5, (w.alloc (.cells zC.toArray 37)).setCells w.heap.size 0 L.toArray.toList = w5 ∧ (∀ j v, L[j]? = some v → w5.cell? ⟨w.heap.size, j, none⟩ = some v) ∧ Below w.heap.size w w5 ∧ w.heap.size < w5.heap.size := by
  have ht : (w.alloc (.cells zC.toArray 37)).there w.heap.size 0 L.length := by rw [hl]; exact there_new w zC 37
  have hr := World.rangeAt_setCells_same _ _ _ L ht
  have hc : ∀ j v, L[j]? = some v → ((w.alloc (.cells zC.toArray 37)).setCells w.heap.size 0 L).cell? ⟨w.heap.size, j, none⟩ = some v := fun j v hv => by
    have t := hr j v hv
    rw [Nat.zero_add] at t
    exact t
  refine ⟨_, rfl, hc, below_setCells ((Below.refl _ _).alloc (Nat.le_refl _) _) _ _ (Nat.le_refl _) _, ?_⟩
  exact lt_of_cell (hc 0 (L[0]'(by omega)) (List.getElem?_eq_getElem _))
set_option maxRecDepth 20000 in
set_option maxHeartbeats 1000000 in
theorem small11 (w : World) (hT : Tab w) : Calls Tryd.prog 11 #[] w fun e w' => e = .returned (.bool true) ∧ Below w.heap.size w w' := by
  have HT : Hid (Tab w) := hT
  clear hT
  go_enter Tryd.func11, Tryd.ntmps11
  go_wp2_with fail
  refine (page25 w.heap.size _ (by simp) (fun i hi => by rcases (by omega : i = 0 ∨ i = 1 ∨ i = 2) with rfl | rfl | rfl <;> simp [wd])).mono ?_
  rintro e w1 ⟨hb1, W, hPb, rfl, hw1⟩
  have hA := page_arg hPb
  rw [← hw1] at hA
  have HB1 : Hid (Below w.heap.size w w1) := ((Below.refl _ w).alloc (Nat.le_refl _) _).trans (hb1.mono (by simp))
  clear hb1 hPb hw1
  have HN : Hid (Calls Tryd.prog 12 #[.agg c0.toArray, .slice (some ⟨W.heap.size, 0, none⟩) 1 1, .slice none 0 0] w1 fun e w' => ∃ W0 mem r m, W0.heap.size ≤ m ∧ Below w1.heap.size w1 W0 ∧ (∃ base ps, Fr W0 mem r 1 kF pF YF base ps) ∧ Below W0.heap.size W0 w' ∧ Sm w' m mem 0 ∧ e = .returned (.tuple #[.pointer (some ⟨m, 0, none⟩), .int .i64 0])) := new12 w1 hA rfl
  clear hA
  go_wp2_with fail
  refine HN.out.mono ?_
  rintro e w2 ⟨W0, mem, r, m, hm, hb0, hF, hb2, hS, rfl⟩
  have HB0 : Hid (Below w.heap.size w W0) := HB1.out.trans (hb0.mono HB1.out.size)
  have HB2 : Hid (Below W0.heap.size W0 w2) := hb2
  have HS : Hid (Sm w2 m mem 0) := hS
  have HF : Hid (∃ base ps, Fr W0 mem r 1 kF pF YF base ps) := hF
  have HT0 : Hid (Tab W0) := HT.out.below HB0.out
  clear hb0 hb2 hS hF
  go_wp2_with fail
  refine (run13 hm HF.out HT0.out HB2.out HS.out).mono ?_
  rintro e w3 ⟨rfl, hb3, hS3⟩
  have HB3 : Hid (Below W0.heap.size W0 w3) := hb3
  have HS3 : Hid (Sm w3 m mem 3) := hS3
  clear hb3 hS3
  go_wp2_with fail
  refine (state14 HS3.out).mono ?_
  rintro e w4 ⟨rfl, hb4⟩
  have HB4 : Hid (Below w.heap.size w w4) := (HB0.out.trans (HB3.out.mono HB0.out.size)).trans (hb4.mono (Nat.le_trans HB0.out.size HB3.out.size))
  clear hb4
  have q33 := e33
  have q34 := e34
  have q35 := e35
  have hl : Hid ((ccs 4108 7 93 3 true 7).length = 39) := rfl
  have HO : Hid ((ccs 4108 7 93 3 true 7).toArray.all (·.oneCell') = true) := ccs_one 4108 7 93 3 true 7
  generalize ccs 4108 7 93 3 true 7 = L at *
  have hts : Hid ((w4.alloc (.cells zC.toArray 37)).there w4.heap.size 0 L.toArray.size) := by rw [show L.toArray.size = 39 from hl.out]; exact there_new w4 zC 37
  have his : Hid ((Tryd.prog.info? 37).map (·.size) = some L.toArray.size) := by rw [show L.toArray.size = 39 from hl.out]; exact info37
  obtain ⟨w5, hw5, hcs, hb5, hz5⟩ := stored L hl.out w4
  have k33 := hcs 33 _ q33
  have k34 := hcs 34 _ q34
  have k35 := hcs 35 _ q35
  have H5 : Hid ((w4.alloc (.cells zC.toArray 37)).setCells w4.heap.size 0 L.toArray.toList = w5) := hw5
  have HB5 : Hid (Below w4.heap.size w4 w5) := hb5
  have hA7 := alu7_add 35 2 3 (by decide) (by decide) (by decide) (by decide)
  clear hw5 hcs hb5 q33 q34 q35
  go_wp2_with (first | (refine wpList_store_mid rfl 37 _ _ rfl w4.heap.size 0 L.toArray rfl rfl hts.out his.out HO.out ?_; change wpList _ _ _ _ _ ((w4.alloc (.cells zC.toArray 37)).setCells w4.heap.size 0 L.toArray.toList); rw [H5.out]) | (go_at_call 7; refine (hA7 _).mono ?_; rintro e w6 ⟨rfl, h6⟩; subst h6) | go_in)
  go_ret
  exact ⟨rfl, HB4.out.trans (HB5.out.mono HB4.out.size)⟩
end Go.Proofs.YtnmpbihpoefeoaaDoor

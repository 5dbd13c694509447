/- Walks of the first question of every statement (speaks). -/
import Derived.Test.YtndbkkldfinggabP3
namespace Go.Proofs.Ytndbkkldfinggab
open Go.RowKit Go.Shelf
set_option maxHeartbeats 1000000 in
theorem load6_r (b r g1 g2 : Nat) (c1 c2 : Array Value) (w : World) (h : Two w b r g1 g2 c1 c2) (hx : w.cell? ⟨g1, 4095, none⟩ = some (.int .u8 2)) (hy : w.cell? ⟨g2, 0, none⟩ = some (.int .u8 3)) : Calls Try.prog 11 #[.pointer (some ⟨b, 0, none⟩), .int .u64 8191, .int .i64 2] w fun e w' => e = .returned (.tuple #[.int .u64 770, .int .i64 0]) ∧ Below w.heap.size w w' := by
  have HH : Hid (Two w b r g1 g2 c1 c2) := h
  have HX : Hid (w.cell? ⟨g1, 4095, none⟩ = some (.int .u8 2)) := hx
  have HY : Hid (w.cell? ⟨g2, 0, none⟩ = some (.int .u8 3)) := hy
  obtain ⟨l1, l2, l3⟩ := h.sizes
  have l4 := h.lt3
  clear h hx hy
  go_enter Try.func11, Try.ntmps11
  go_wp2_with fail
  refine (number17_r b r g1 g2 c1 c2 _ HH.out).mono ?_
  rintro e w1 ⟨rfl, hb1⟩
  have HB : Hid (Below w.heap.size w w1) := hb1
  clear hb1
  go_wp2_with fail
  refine (value18 b r g1 g2 c1 c2 _ (HH.out.below HB.out) ((HB.out.cell (p := ⟨g1, 4095, none⟩) (by show g1 < _; omega)).trans HX.out) ((HB.out.cell (p := ⟨g2, 0, none⟩) l3).trans HY.out)).mono ?_
  rintro e w2 ⟨rfl, hb2⟩
  have HB2 : Hid (Below w.heap.size w w2) := HB.out.trans (hb2.mono HB.out.size)
  clear hb2
  go_wp2
  go_ret2
  exact ⟨rfl, HB2.out⟩
set_option maxHeartbeats 1000000 in
theorem load6_m (b r g1 g2 : Nat) (c1 c2 : Array Value) (w : World) (h : Two w b r g1 g2 c1 c2) : Calls Try.prog 11 #[.pointer (some ⟨b, 0, none⟩), .int .u64 12288, .int .i64 1] w fun e w' => e = .returned (.tuple #[.int .u64 0, .int .i64 20]) ∧ Below w.heap.size w w' := by
  have HH : Hid (Two w b r g1 g2 c1 c2) := h
  clear h
  go_enter Try.func11, Try.ntmps11
  go_wp2_with fail
  refine (number17_m b r g1 g2 c1 c2 _ HH.out).mono ?_
  rintro e w1 ⟨rfl, hb1⟩
  have HB : Hid (Below w.heap.size w w1) := hb1
  clear hb1
  go_wp2
  go_ret2
  exact ⟨rfl, HB.out⟩
set_option maxHeartbeats 1000000 in
theorem speaks11 (w : World) : Calls Try.prog 10 #[] w fun e w' => e = .returned (.bool true) ∧ Below w.heap.size w w' := by
  go_enter Try.func10, Try.ntmps10
  go_wp2_with fail
  refine (new21 w).mono ?_
  rintro e w0 ⟨rfl, e0⟩
  have hs0 : w0.heap.size = w.heap.size + 2 := by rw [e0]; simp
  have hB0 : Below w.heap.size w w0 := by rw [e0]; exact ((Below.refl _ w).alloc (Nat.le_refl _) _).alloc (by simp) _
  have hc : w0.cell? ⟨w.heap.size + 1, 0, none⟩ = some (.map (some w.heap.size)) := by
    rw [e0]
    have := World.alloc_heap_new (w.alloc (.map #[] 0)) (.cells #[.map (some w.heap.size)] 67)
    simp at this
    simp [World.cell?, this]
  have hr : w0.heap[w.heap.size]? = some (.map #[] 0) := by rw [e0]; exact heap_on (heap_at w _) _
  have HC : Hid (w0.cell? ⟨w.heap.size + 1, 0, none⟩ = some (.map (some w.heap.size))) := hc
  have HR : Hid (w0.heap[w.heap.size]? = some (.map #[] 0)) := hr
  have HB0 : Hid (Below w.heap.size w w0) := hB0
  clear e0 hB0 hc hr
  go_wp2_with fail
  refine (map4_new (w.heap.size + 1) w.heap.size w0 HC.out (by omega) HR.out (by omega)).mono ?_
  rintro e w1 ⟨rfl, ⟨g1, g2, hT⟩, hb1⟩
  have HT1 : Hid (Two w1 (w.heap.size + 1) w.heap.size g1 g2 zB zB) := hT
  have HB1 : Hid (Below w.heap.size w w1) := HB0.out.trans hb1
  clear hT hb1 HB0 HC HR
  go_wp2_with fail
  refine (store27 (w.heap.size + 1) w.heap.size g1 g2 w1 HT1.out).mono ?_
  rintro e w2 ⟨rfl, ⟨c1, c2, hT⟩, hx, hy, hb2⟩
  have HT2 : Hid (Two w2 (w.heap.size + 1) w.heap.size g1 g2 c1 c2) := hT
  have HB2 : Hid (Below w.heap.size w w2) := HB1.out.trans hb2
  have HX : Hid (w2.cell? ⟨g1, 4095, none⟩ = some (.int .u8 2)) := hx
  have HY : Hid (w2.cell? ⟨g2, 0, none⟩ = some (.int .u8 3)) := hy
  clear hT hb2 hx hy HB1 HT1
  go_wp2_with fail
  refine (load6_r (w.heap.size + 1) w.heap.size g1 g2 c1 c2 w2 HT2.out HX.out HY.out).mono ?_
  rintro e w3 ⟨rfl, hb3⟩
  have HT3 : Hid (Two w3 (w.heap.size + 1) w.heap.size g1 g2 c1 c2) := HT2.out.below hb3
  have HB3 : Hid (Below w.heap.size w w3) := HB2.out.trans (hb3.mono HB2.out.size)
  clear hb3 HX HY HB2 HT2
  go_wp2_with fail
  refine (load6_m (w.heap.size + 1) w.heap.size g1 g2 c1 c2 w3 HT3.out).mono ?_
  rintro e w4 ⟨rfl, hb4⟩
  have HB4 : Hid (Below w.heap.size w w4) := HB3.out.trans (hb4.mono HB3.out.size)
  clear hb4 HB3 HT3
  go_wp2
  go_ret
  exact ⟨rfl, HB4.out⟩
end Go.Proofs.Ytndbkkldfinggab

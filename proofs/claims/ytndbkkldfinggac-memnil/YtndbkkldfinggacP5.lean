/- The walk of MemNil. -/
import Derived.Test.YtndbkkldfinggacP4
namespace Go.Proofs.Ytndbkkldfinggac
open Go.RowKit Go.Shelf
set_option maxRecDepth 20000 in
set_option maxHeartbeats 1000000 in
theorem law3 (c0 : Value) (a n v base size : Int) (a0 : 0 ≤ a) (a1 : a < 18446744073709551616) (b0 : 0 ≤ base) (b1 : base < 18446744073709551616) (s0 : 0 ≤ size) (s1 : size < 18446744073709551616) (w : World) : Calls Try.prog 3 #[.agg #[c0, .int .u64 a, .int .i64 n, .int .u64 v], .int .u64 base, .int .u64 size] w fun e w' => e = .returned (.bool true) ∧ Below w.heap.size w w' := by
  go_enter Try.func3, Try.ntmps3
  go_wp2_with fail
  obtain ⟨w0, hw0⟩ : ∃ w0, (w.alloc (.cells #[c0, .int .u64 a, .int .i64 n, .int .u64 v] 25)) = w0 := ⟨_, rfl⟩
  have k1 : w0.cell? ⟨w.heap.size, 1, none⟩ = some (.int .u64 a) := by have := World.alloc_heap_new w (.cells #[c0, .int .u64 a, .int .i64 n, .int .u64 v] 25); rw [hw0] at this; simp [World.cell?, this]
  have k2 : w0.cell? ⟨w.heap.size, 2, none⟩ = some (.int .i64 n) := by have := World.alloc_heap_new w (.cells #[c0, .int .u64 a, .int .i64 n, .int .u64 v] 25); rw [hw0] at this; simp [World.cell?, this]
  have hs : w.heap.size < w0.heap.size := by rw [← hw0]; simp
  have HB : Hid (Below w.heap.size w w0) := by have : Below w.heap.size w w0 := by { rw [← hw0]; exact (Below.refl _ w).alloc (Nat.le_refl _) _ }; exact this
  rw [hw0]
  clear hw0
  refine (map4_nil base size b0 b1 s0 s1 w0).mono ?_
  rintro e w1 ⟨rfl, hb⟩
  have j1 : w1.cell? ⟨w.heap.size, 1, none⟩ = some (.int .u64 a) := (hb.cell (p := ⟨w.heap.size, 1, none⟩) hs).trans k1
  have j2 : w1.cell? ⟨w.heap.size, 2, none⟩ = some (.int .i64 n) := (hb.cell (p := ⟨w.heap.size, 2, none⟩) hs).trans k2
  have hs1 : w.heap.size < w1.heap.size := Nat.lt_of_lt_of_le hs hb.size
  have HB1 : Hid (Below w.heap.size w w1) := HB.out.trans (hb.mono HB.out.size)
  clear hb k1 k2 HB hs
  go_wp2_with fail
  refine (map5_nil base size b0 b1 s0 s1 w1).mono ?_
  rintro e w2 ⟨⟨v5, rfl⟩, hb⟩
  have k1 : w2.cell? ⟨w.heap.size, 1, none⟩ = some (.int .u64 a) := (hb.cell (p := ⟨w.heap.size, 1, none⟩) hs1).trans j1
  have k2 : w2.cell? ⟨w.heap.size, 2, none⟩ = some (.int .i64 n) := (hb.cell (p := ⟨w.heap.size, 2, none⟩) hs1).trans j2
  have hs2 : w.heap.size < w2.heap.size := Nat.lt_of_lt_of_le hs1 hb.size
  have HB2 : Hid (Below w.heap.size w w2) := HB1.out.trans (hb.mono HB1.out.size)
  clear hb j1 j2 HB1 hs1
  go_wp2_with fail
  refine (load6_nil a n a0 a1 w2).mono ?_
  rintro e w3 ⟨rfl, hb⟩
  have j1 : w3.cell? ⟨w.heap.size, 1, none⟩ = some (.int .u64 a) := (hb.cell (p := ⟨w.heap.size, 1, none⟩) hs2).trans k1
  have j2 : w3.cell? ⟨w.heap.size, 2, none⟩ = some (.int .i64 n) := (hb.cell (p := ⟨w.heap.size, 2, none⟩) hs2).trans k2
  have HB3 : Hid (Below w.heap.size w w3) := HB2.out.trans (hb.mono HB2.out.size)
  clear hb k1 k2 HB2 hs2
  go_wp2_with fail
  refine (load7_nil a n a0 a1 w3).mono ?_
  rintro e w4 ⟨rfl, e4⟩
  subst e4
  clear j1 j2
  go_wp2_with fail
  refine (clone8_nil w4).mono ?_
  rintro e w5 ⟨b, r, rfl, hc, hr, hbl, hrl, hb⟩
  have HC : Hid (w5.cell? ⟨b, 0, none⟩ = some (.map (some r)) ∧ w5.heap[r]? = some (.map #[] 0) ∧ b < w5.heap.size ∧ r < w5.heap.size) := ⟨hc, hr, hbl, hrl⟩
  have HB5 : Hid (Below w.heap.size w w5) := HB3.out.trans (hb.mono HB3.out.size)
  clear hb HB3 hc hr hbl hrl
  go_wp2_with fail
  refine (pages9_nil w5).mono ?_
  rintro e w6 ⟨rfl, hb⟩
  have HC6 : Hid (w6.cell? ⟨b, 0, none⟩ = some (.map (some r)) ∧ w6.heap[r]? = some (.map #[] 0) ∧ b < w6.heap.size ∧ r < w6.heap.size) := ⟨(hb.cell (p := ⟨b, 0, none⟩) HC.out.2.2.1).trans HC.out.1, (hb.block r HC.out.2.2.2).trans HC.out.2.1, Nat.lt_of_lt_of_le HC.out.2.2.1 hb.size, Nat.lt_of_lt_of_le HC.out.2.2.2 hb.size⟩
  have HB6 : Hid (Below w.heap.size w w6) := HB5.out.trans (hb.mono HB5.out.size)
  clear hb HB5 HC
  go_wp2_with fail
  refine (same10_nil b r w6 HC6.out.1 HC6.out.2.1 HC6.out.2.2.1 HC6.out.2.2.2).mono ?_
  rintro e w7 ⟨rfl, hb⟩
  have HB7 : Hid (Below w.heap.size w w7) := HB6.out.trans (hb.mono HB6.out.size)
  clear hb HB6 HC6
  go_wp2_with fail
  refine (speaks11 w7).mono ?_
  rintro e w8 ⟨rfl, hb⟩
  have HB8 : Hid (Below w.heap.size w w8) := HB7.out.trans (hb.mono HB7.out.size)
  clear hb HB7
  go_wp2
  go_ret
  exact ⟨rfl, HB8.out⟩
end Go.Proofs.Ytndbkkldfinggac

/- Walks of the first question of every statement (speaks): what may be used. -/
import Derived.Test.YtndbkkldfinggabM8
namespace Go.Proofs.Ytndbkkldfinggab
open Go.RowKit Go.Shelf
theorem lt_of_some {w : World} {r : Nat} {x : Obj} (h : w.heap[r]? = some x) : r < w.heap.size := (Array.getElem?_eq_some_iff.1 h).1
theorem Two.sizes {W : World} {b r g1 g2 : Nat} {c1 c2 : Array Value} (h : Two W b r g1 g2 c1 c2) : r < W.heap.size ∧ b < W.heap.size ∧ g2 < W.heap.size := by
  have a := lt_of_some h.map
  have c := lt_of_some h.two
  have := h.lt2
  have := h.lt3
  exact ⟨a, by omega, c⟩
theorem Two.below {W W' : World} {b r g1 g2 : Nat} {c1 c2 : Array Value} (h : Two W b r g1 g2 c1 c2) (hb : Below W.heap.size W W') : Two W' b r g1 g2 c1 c2 := by
  obtain ⟨l1, l2, l3⟩ := h.sizes
  have := h.lt3
  exact ⟨(hb.cell (p := ⟨b, 0, none⟩) l2).trans h.cell, (hb.block r l1).trans h.map, (hb.block g1 (by omega)).trans h.one, (hb.block g2 l3).trans h.two, h.lt1, h.lt2, h.lt3⟩
set_option maxRecDepth 20000 in
set_option maxHeartbeats 1000000 in
theorem usable28_w (b r g1 g2 : Nat) (c1 c2 : Array Value) (w : World) (h : Two w b r g1 g2 c1 c2) : Calls Try.prog 42 #[.pointer (some ⟨b, 0, none⟩), .int .u64 8190, .int .i64 4, .int .i64 2] w fun e w' => e = .returned (.int .i64 0) ∧ Below w.heap.size w w' := by
  have HH : Hid (Two w b r g1 g2 c1 c2) := h
  have HX : Hid (∀ W, Calls Try.prog 44 #[.int .u64 8190, .int .u64 4] W fun e w' => e = .returned (.bool false) ∧ w' = W) := fun W => beyond12 8190 4 (by omega) (by omega) (by omega) (by omega) W
  obtain ⟨l1, l2, l3⟩ := h.sizes
  clear h
  go_enter Try.func42, Try.ntmps42
  go_wp2_with fail
  refine (HX.out _).mono ?_
  rintro e w1 ⟨rfl, e1⟩
  subst e1
  go_wp2_with fail
  go_loopw [9, 10] (fun y x wr => y = .int .i64 0 ∧ (x = .int .u64 8190 ∨ x = .int .u64 8192 ∨ x = .int .u64 12288) ∧ Below w1.heap.size w1 wr) (fun _ x _ => (12288 - intOf x).toNat)
  case atStart => exact ⟨rfl, .inl rfl, Below.refl _ _⟩
  case round =>
    obtain ⟨rfl, hx, hbl⟩ := hrel
    have HB : Hid (Below w1.heap.size w1 wr) := hbl
    have hs := hbl.size
    clear hbl
    rcases hx with rfl | rfl | rfl
    · go_wp2_with fail
      refine (base36 8190 (by omega) (by omega) _).mono ?_
      rintro e w2 ⟨rfl, e2⟩
      subst e2
      go_wp2_with fail
      refine (page25_hit b r g1 0 4096 _ 2 _ ((HB.out.cell (p := ⟨b, 0, none⟩) l2).trans HH.out.cell) (by omega) ((HB.out.block r l1).trans HH.out.map) rfl).mono ?_
      rintro e w3 ⟨rfl, hb3⟩
      have HB3 : Hid (Below w1.heap.size w1 w3) := HB.out.trans (hb3.mono HB.out.size)
      clear hb3
      go_wp2_with ((go_at_call 54; refine (base36 8190 (by omega) (by omega) _).mono ?_; rintro e w4 ⟨rfl, e4⟩; subst e4))
      go_roundw
      case rel => exact ⟨rfl, .inr (.inl rfl), HB3.out.alloc HB3.out.size _⟩
      case measure => simp [intOf]
    · go_wp2_with fail
      refine (base36 8192 (by omega) (by omega) _).mono ?_
      rintro e w2 ⟨rfl, e2⟩
      subst e2
      go_wp2_with fail
      refine (page25_hit b r g2 1 8192 _ 2 _ ((HB.out.cell (p := ⟨b, 0, none⟩) l2).trans HH.out.cell) (by omega) ((HB.out.block r l1).trans HH.out.map) rfl).mono ?_
      rintro e w3 ⟨rfl, hb3⟩
      have HB3 : Hid (Below w1.heap.size w1 w3) := HB.out.trans (hb3.mono HB.out.size)
      clear hb3
      go_wp2_with ((go_at_call 54; refine (base36 8192 (by omega) (by omega) _).mono ?_; rintro e w4 ⟨rfl, e4⟩; subst e4))
      go_roundw
      case rel => exact ⟨rfl, .inr (.inr rfl), HB3.out.alloc HB3.out.size _⟩
      case measure => simp [intOf]
    · go_wp2
      go_ret
      exact ⟨rfl, HB.out⟩
set_option maxRecDepth 20000 in
set_option maxHeartbeats 1000000 in
theorem usable28_r (b r g1 g2 : Nat) (c1 c2 : Array Value) (w : World) (h : Two w b r g1 g2 c1 c2) : Calls Try.prog 42 #[.pointer (some ⟨b, 0, none⟩), .int .u64 8191, .int .i64 2, .int .i64 4] w fun e w' => e = .returned (.int .i64 0) ∧ Below w.heap.size w w' := by
  have HH : Hid (Two w b r g1 g2 c1 c2) := h
  have HX : Hid (∀ W, Calls Try.prog 44 #[.int .u64 8191, .int .u64 2] W fun e w' => e = .returned (.bool false) ∧ w' = W) := fun W => beyond12 8191 2 (by omega) (by omega) (by omega) (by omega) W
  obtain ⟨l1, l2, l3⟩ := h.sizes
  clear h
  go_enter Try.func42, Try.ntmps42
  go_wp2_with fail
  refine (HX.out _).mono ?_
  rintro e w1 ⟨rfl, e1⟩
  subst e1
  go_wp2_with fail
  go_loopw [9, 10] (fun y x wr => y = .int .i64 0 ∧ (x = .int .u64 8191 ∨ x = .int .u64 8192 ∨ x = .int .u64 12288) ∧ Below w1.heap.size w1 wr) (fun _ x _ => (12288 - intOf x).toNat)
  case atStart => exact ⟨rfl, .inl rfl, Below.refl _ _⟩
  case round =>
    obtain ⟨rfl, hx, hbl⟩ := hrel
    have HB : Hid (Below w1.heap.size w1 wr) := hbl
    have hs := hbl.size
    clear hbl
    rcases hx with rfl | rfl | rfl
    · go_wp2_with fail
      refine (base36 8191 (by omega) (by omega) _).mono ?_
      rintro e w2 ⟨rfl, e2⟩
      subst e2
      go_wp2_with fail
      refine (page25_hit b r g1 0 4096 _ 2 _ ((HB.out.cell (p := ⟨b, 0, none⟩) l2).trans HH.out.cell) (by omega) ((HB.out.block r l1).trans HH.out.map) rfl).mono ?_
      rintro e w3 ⟨rfl, hb3⟩
      have HB3 : Hid (Below w1.heap.size w1 w3) := HB.out.trans (hb3.mono HB.out.size)
      clear hb3
      go_wp2_with ((go_at_call 54; refine (base36 8191 (by omega) (by omega) _).mono ?_; rintro e w4 ⟨rfl, e4⟩; subst e4))
      go_roundw
      case rel => exact ⟨rfl, .inr (.inl rfl), HB3.out.alloc HB3.out.size _⟩
      case measure => simp [intOf]
    · go_wp2_with fail
      refine (base36 8192 (by omega) (by omega) _).mono ?_
      rintro e w2 ⟨rfl, e2⟩
      subst e2
      go_wp2_with fail
      refine (page25_hit b r g2 1 8192 _ 2 _ ((HB.out.cell (p := ⟨b, 0, none⟩) l2).trans HH.out.cell) (by omega) ((HB.out.block r l1).trans HH.out.map) rfl).mono ?_
      rintro e w3 ⟨rfl, hb3⟩
      have HB3 : Hid (Below w1.heap.size w1 w3) := HB.out.trans (hb3.mono HB.out.size)
      clear hb3
      go_wp2_with ((go_at_call 54; refine (base36 8192 (by omega) (by omega) _).mono ?_; rintro e w4 ⟨rfl, e4⟩; subst e4))
      go_roundw
      case rel => exact ⟨rfl, .inr (.inr rfl), HB3.out.alloc HB3.out.size _⟩
      case measure => simp [intOf]
    · go_wp2
      go_ret
      exact ⟨rfl, HB.out⟩
set_option maxRecDepth 20000 in
set_option maxHeartbeats 1000000 in
theorem usable28_m (b r g1 g2 : Nat) (c1 c2 : Array Value) (w : World) (h : Two w b r g1 g2 c1 c2) : Calls Try.prog 42 #[.pointer (some ⟨b, 0, none⟩), .int .u64 12288, .int .i64 1, .int .i64 4] w fun e w' => e = .returned (.int .i64 20) ∧ Below w.heap.size w w' := by
  have HH : Hid (Two w b r g1 g2 c1 c2) := h
  have HX : Hid (∀ W, Calls Try.prog 44 #[.int .u64 12288, .int .u64 1] W fun e w' => e = .returned (.bool false) ∧ w' = W) := fun W => beyond12 12288 1 (by omega) (by omega) (by omega) (by omega) W
  obtain ⟨l1, l2, l3⟩ := h.sizes
  clear h
  go_enter Try.func42, Try.ntmps42
  go_wp2_with fail
  refine (HX.out _).mono ?_
  rintro e w1 ⟨rfl, e1⟩
  subst e1
  go_wp2_with fail
  go_loopw [9, 10] (fun y x wr => y = .int .i64 0 ∧ x = .int .u64 12288 ∧ wr = w1) (fun _ _ _ => 0)
  case atStart => exact ⟨rfl, rfl, rfl⟩
  case round =>
    obtain ⟨rfl, rfl, rfl⟩ := hrel
    go_wp2_with fail
    refine (base36 12288 (by omega) (by omega) _).mono ?_
    rintro e w2 ⟨rfl, e2⟩
    subst e2
    go_wp2_with fail
    refine (page25_miss b r 12288 _ 2 _ HH.out.cell l2 HH.out.map rfl).mono ?_
    rintro e w3 ⟨rfl, hb3⟩
    go_wp2
    go_ret
    exact ⟨rfl, hb3.alloc hb3.size _⟩
end Go.Proofs.Ytndbkkldfinggab

/- Equal lists of numbers: the verifier's plain comparison. -/
import Derived.Test.YtkkmeogehapjoaaGreatDoorSA
namespace Go.Proofs.YtkkmeogehapjoaaGreatDoor
open Go.RowKit Go.Shelf
set_option maxRecDepth 100000 in
set_option maxHeartbeats 4000000 in
theorem ints25 (xs ys : List Int) (a1 a2 : Option Addr) (c1 c2 : Nat) (w : World) (h1 : IsA w a1 c1 xs) (h2 : IsA w a2 c2 ys) (he : xs = ys) : Calls Tryz.prog 25 #[.slice a1 xs.length c1, .slice a2 ys.length c2] w fun e w' => e = .returned (.bool true) ∧ Below w.heap.size w w' := by
  subst he
  obtain ⟨m, hm⟩ : ∃ m, m = xs.length := ⟨_, rfl⟩
  have HM : Hid (m = xs.length) := hm
  have H1 : Hid (IsA w a1 c1 xs ∧ IsA w a2 c2 xs) := ⟨h1, h2⟩
  have k1 : m ≤ c1 := by rw [hm]; exact h1.1
  have k2 : m ≤ c2 := by rw [hm]; exact h2.1
  have k3 := h1.2.1
  have k4 := h2.2.1
  have c3 := cells3'
  rw [← hm]
  clear hm h1 h2
  go_enter Tryz.func25, Tryz.ntmps25
  go_wp2
  go_loopw [5, 13] (fun _ i wx => ∃ j : Nat, j ≤ m ∧ i = .int .i64 j ∧ Below w.heap.size w wx) (fun _ i _ => m - (intOf i).toNat)
  case atStart => exact ⟨0, Nat.zero_le _, rfl, Below.refl _ _⟩
  case round =>
    obtain ⟨j, hj, rfl, hB⟩ := hrel
    have HB : Hid (Below w.heap.size w wr) := hB
    by_cases hlt : j < m
    · obtain ⟨y, hy⟩ : ∃ y, xs[j]? = some y := ⟨_, List.getElem?_eq_getElem (by have := HM.out; omega)⟩
      obtain ⟨gx, ox, rfl, hx'⟩ := (H1.out.1.below hB).2.2 (by have := HM.out; omega)
      obtain ⟨gy, oy, rfl, hy'⟩ := (H1.out.2.below hB).2.2 (by have := HM.out; omega)
      have p0 := hx' j y hy
      have p1 := hy' j y hy
      clear hx' hy' hy hB
      go_wp2_with fail
      go_quiet (fail)
      have HBd : Hid (Below w.heap.size w (wr.drewN nq)) := HB.out.trans ((drew_below wr nq).mono HB.out.size)
      go_wp2
      exact ⟨⟨j + 1, by omega, by go_num, HBd.out⟩, by simp [intOf]; omega⟩
    · obtain rfl : j = m := by omega
      clear hB
      go_wp2
      go_ret
      exact ⟨rfl, HB.out⟩
end Go.Proofs.YtkkmeogehapjoaaGreatDoor

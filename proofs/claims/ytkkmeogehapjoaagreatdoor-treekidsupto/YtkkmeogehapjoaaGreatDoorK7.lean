/- Trees alike in all, places too: the verifier's plain comparison. -/
import Derived.Test.YtkkmeogehapjoaaGreatDoorK6
namespace Go.Proofs.YtkkmeogehapjoaaGreatDoor
open Go.RowKit Go.Shelf
set_option maxRecDepth 100000 in
set_option maxHeartbeats 4000000 in
theorem ints25 (xs ys : List Int) (a1 a2 : Option Addr) (c1 c2 : Nat) (w : World) (h1 : IsA w a1 c1 xs) (h2 : IsA w a2 c2 ys) (he : xs = ys) : Calls Tryz.prog 25 #[.slice a1 xs.length c1, .slice a2 ys.length c2] w fun e w' => e = .returned (.bool true) ∧ Below w.heap.size w w' := by
  subst he
  obtain ⟨m, hm⟩ : ∃ m, m = xs.length := ⟨_, rfl⟩
  have HM : Hid (m = xs.length) := hm
  have H1 : Hid (IsA w a1 c1 xs ∧ IsA w a2 c2 xs) := ⟨h1, h2⟩
  have k1 : m ≤ c1 := by rw [hm]; exact h1.1
  have k2 : m ≤ c2 := by rw [hm]; exact h2.1
  have k3 := h1.2.1
  have k4 := h2.2.1
  have c3 := cells3'
  rw [← hm]
  clear hm h1 h2
  go_enter Tryz.func25, Tryz.ntmps25
  go_wp2
  go_loopw [5, 13] (fun _ i wx => ∃ j : Nat, j ≤ m ∧ i = .int .i64 j ∧ Below w.heap.size w wx) (fun _ i _ => m - (intOf i).toNat)
  case atStart => exact ⟨0, Nat.zero_le _, rfl, Below.refl _ _⟩
  case round =>
    obtain ⟨j, hj, rfl, hB⟩ := hrel
    have HB : Hid (Below w.heap.size w wr) := hB
    by_cases hlt : j < m
    · obtain ⟨y, hy⟩ : ∃ y, xs[j]? = some y := ⟨_, List.getElem?_eq_getElem (by have := HM.out; omega)⟩
      obtain ⟨gx, ox, rfl, hx'⟩ := (H1.out.1.below hB).2.2 (by have := HM.out; omega)
      obtain ⟨gy, oy, rfl, hy'⟩ := (H1.out.2.below hB).2.2 (by have := HM.out; omega)
      have p0 := hx' j y hy
      have p1 := hy' j y hy
      clear hx' hy' hy hB
      go_wp2_with fail
      go_quiet (fail)
      have HBd : Hid (Below w.heap.size w (wr.drewN nq)) := HB.out.trans ((drew_below wr nq).mono HB.out.size)
      go_wp2
      exact ⟨⟨j + 1, by omega, by go_num, HBd.out⟩, by simp [intOf]; omega⟩
    · obtain rfl : j = m := by omega
      clear hB
      go_wp2
      go_ret
      exact ⟨rfl, HB.out⟩
set_option maxRecDepth 100000 in
set_option maxHeartbeats 4000000 in
theorem tree20 (a b : List Nd) (ao bo : Option Addr) (ac bc : Nat) (w : World) (ha : NdS w ao ac a) (hb : NdS w bo bc b) (he : a.map pu = b.map pu) : Calls Tryz.prog 20 #[.agg #[.slice ao a.length ac], .agg #[.slice bo b.length bc]] w fun e w' => e = .returned (.bool true) ∧ Below w.heap.size w w' := by
  have hlen : a.length = b.length := by have t := congrArg List.length he; simpa using t
  obtain ⟨k1, k2, k0, k3⟩ := ha
  obtain ⟨g1, g2, g0, g3⟩ := hb
  obtain ⟨m, hm⟩ : ∃ m, m = a.length := ⟨_, rfl⟩
  have hp : m = b.length := by omega
  rw [← hm] at k1 k3 ⊢
  rw [← hp] at g1 g3 ⊢
  have HN : Hid (m = a.length ∧ m = b.length) := ⟨hm, hp⟩
  have c53 := cells53
  have K3 : Hid (0 < m → ∃ g o, ao = some ⟨g, o, none⟩ ∧ ∀ i x, a[i]? = some x → ∀ j y, (ndc x)[j]? = some y → w.cell? ⟨g, o + i * 6 + j, none⟩ = some y) := k3
  have G3 : Hid (0 < m → ∃ g o, bo = some ⟨g, o, none⟩ ∧ ∀ i x, b[i]? = some x → ∀ j y, (ndc x)[j]? = some y → w.cell? ⟨g, o + i * 6 + j, none⟩ = some y) := g3
  have HX : Hid (∀ (i : Nat) x y, a[i]? = some x → b[i]? = some y → pu x = pu y) := fun i x y hx hy => by
    have t : (a.map pu)[i]? = (b.map pu)[i]? := by rw [he]
    rw [List.getElem?_map, List.getElem?_map, hx, hy] at t
    simpa using t
  have H25 : Hid (∀ x y W, x ∈ a → y ∈ b → x.ks = y.ks → Below w.heap.size w W → Calls Tryz.prog 25 #[.slice x.ka x.ks.length x.kc, .slice y.ka y.ks.length y.kc] W fun e w' => e = .returned (.bool true) ∧ Below W.heap.size W w') := fun x y W hx hy hk hW => ints25 x.ks y.ks x.ka y.ka x.kc y.kc W ((k0 x hx).below hW) ((g0 y hy).below hW) hk
  have HB : Hid (∀ o o', Below w.heap.size w ((w.alloc o).alloc o')) := fun o o' => ((Below.refl _ w).alloc (Nat.le_refl _) o).alloc (by simp) o'
  clear hm hp k3 g3 k0 g0 he hlen
  go_enter Tryz.func20, Tryz.ntmps20
  go_wp2
  go_loopw [5, 6, 7, 18] (fun _ _ _ i wx => ∃ j : Nat, j ≤ m ∧ i = .int .i64 j ∧ Below w.heap.size w wx ∧ wx.cell? ⟨w.heap.size + 1, 0, none⟩ = some (.slice bo m bc)) (fun _ _ _ i _ => m - (intOf i).toNat)
  case atStart => exact ⟨0, Nat.zero_le _, rfl, HB.out _ _, by simp⟩
  case round =>
    obtain ⟨j, hj, rfl, hB, hcb⟩ := hrel
    have HBr : Hid (Below w.heap.size w wr) := hB
    by_cases hlt : j < m
    · obtain ⟨x, hx⟩ : ∃ x, a[j]? = some x := ⟨_, List.getElem?_eq_getElem (by have := HN.out.1; omega)⟩
      obtain ⟨y, hy⟩ : ∃ y, b[j]? = some y := ⟨_, List.getElem?_eq_getElem (by have := HN.out.2; omega)⟩
      obtain ⟨ga, oa, rfl, hac⟩ := K3.out (by omega)
      obtain ⟨gb, ob, rfl, hbc⟩ := G3.out (by omega)
      obtain ⟨y0, y1, y2, y3, y4, y5⟩ := nd_cells hac hx
      obtain ⟨z0, z1, z2, z3, z4, z5⟩ := nd_cells hbc hy
      have hga : ga < w.heap.size := World.block_lt_of_cell? _ _ y0
      have hgb : gb < w.heap.size := World.block_lt_of_cell? _ _ z0
      have a0 := ((bcell hB).1 ga _ hga).trans y0
      have a1 := ((bcell hB).1 ga _ hga).trans y1
      have a2 := ((bcell hB).1 ga _ hga).trans y2
      have a3 := ((bcell hB).1 ga _ hga).trans y3
      have a4 := ((bcell hB).1 ga _ hga).trans y4
      have a5 := ((bcell hB).1 ga _ hga).trans y5
      have b0 := ((bcell hB).1 gb _ hgb).trans z0
      have b1 := ((bcell hB).1 gb _ hgb).trans z1
      have b2 := ((bcell hB).1 gb _ hgb).trans z2
      have b3 := ((bcell hB).1 gb _ hgb).trans z3
      have b4 := ((bcell hB).1 gb _ hgb).trans z4
      have b5 := ((bcell hB).1 gb _ hgb).trans z5
      have hgw : gb < wr.heap.size := by have := hB.size; omega
      have hbA : ∀ o i, (wr.alloc o).cell? ⟨gb, i, none⟩ = wr.cell? ⟨gb, i, none⟩ := fun o i => (bcell ((Below.refl _ wr).alloc (Nat.le_refl _) o)).1 gb i hgw
      have hwb : w.heap.size + 1 < wr.heap.size := World.block_lt_of_cell? _ _ hcb
      have hcA : ∀ o i, (wr.alloc o).cell? ⟨w.heap.size + 1, i, none⟩ = wr.cell? ⟨w.heap.size + 1, i, none⟩ := fun o i => (bcell ((Below.refl _ wr).alloc (Nat.le_refl _) o)).1 _ i hwb
      have HBa : Hid (∀ o o', Below w.heap.size w ((wr.alloc o).alloc o')) := fun o o' => (HBr.out.alloc HBr.out.size o).alloc (by have := HBr.out.size; simp; omega) o'
      have HBb : Hid (∀ o o', Below wr.heap.size wr ((wr.alloc o).alloc o')) := fun o o' => ((Below.refl _ wr).alloc (Nat.le_refl _) o).alloc (by simp) o'
      have hE := HX.out j x y hx hy
      have HC : Hid (∀ W, x.ks = y.ks → Below w.heap.size w W → Calls Tryz.prog 25 #[.slice x.ka x.ks.length x.kc, .slice y.ka y.ks.length y.kc] W fun e w' => e = .returned (.bool true) ∧ Below W.heap.size W w') := fun W hk hW => H25.out x y W (List.mem_of_getElem? hx) (List.mem_of_getElem? hy) hk hW
      have HW : Hid (∀ o o' W, Below ((wr.alloc o).alloc o').heap.size ((wr.alloc o).alloc o') W → Below w.heap.size w W ∧ W.cell? ⟨w.heap.size + 1, 0, none⟩ = some (.slice (some ⟨gb, ob, none⟩) m bc)) := fun o o' W hW => by
        have hb2 := (HBb.out o o').trans (hW.mono (HBb.out o o').size)
        exact ⟨HBr.out.trans (hb2.mono HBr.out.size), ((bcell hb2).1 _ 0 hwb).trans hcb⟩
      clear hac hbc hx hy y0 y1 y2 y3 y4 y5 z0 z1 z2 z3 z4 z5 hB
      obtain ⟨xk, xn, xv, xa, xc, xs, xf, xe⟩ := x
      obtain ⟨yk, yn, yv, ya, yc, ys, yf, ye⟩ := y
      simp only [pu, Nd.mk.injEq, true_and] at hE
      obtain ⟨rfl, rfl, rfl, rfl, rfl, rfl⟩ := hE
      simp only at *
      have HC2 : Hid (∀ W, Below w.heap.size w W → Calls Tryz.prog 25 #[.slice xa xs.length xc, .slice ya xs.length yc] W fun e w' => e = .returned (.bool true) ∧ Below W.heap.size W w') := fun W hW => HC.out W trivial hW
      clear HC
      generalize xs.length = xl at *
      go_wp2_with fail
      refine (HC2.out _ (HBa.out _ _)).mono ?_
      rintro e w2 ⟨rfl, hb2⟩
      have HB2 := (show Hid _ from HW.out _ _ _ hb2)
      clear hb2 a0 a1 a2 a3 a4 a5 b0 b1 b2 b3 b4 b5
      go_wp2
      exact ⟨⟨j + 1, by omega, by go_num, HB2.out.1, HB2.out.2⟩, by simp [intOf]; omega⟩
    · obtain rfl : j = m := by omega
      clear hB
      go_wp2
      go_ret
      exact ⟨rfl, HBr.out⟩
end Go.Proofs.YtkkmeogehapjoaaGreatDoor

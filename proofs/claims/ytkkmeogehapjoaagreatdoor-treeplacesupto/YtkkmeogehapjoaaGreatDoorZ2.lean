/- Two trees the same: the program's own, and the document's. -/
import Derived.Test.YtkkmeogehapjoaaGreatDoorSA
namespace Go.Proofs.YtkkmeogehapjoaaGreatDoor
open Go.RowKit Go.Shelf
set_option maxRecDepth 100000 in
set_option maxHeartbeats 4000000 in
theorem same14 (a b : List Nd) (ao bo : Option Addr) (ac bc : Nat) (w : World) (ha : NdS w ao ac a) (hb : NdS w bo bc b) : Calls Tryz.prog 14 #[.agg #[.slice ao a.length ac], .agg #[.slice bo b.length bc]] w fun e w' => e = .returned (.bool (nsEq a b)) ∧ Below w.heap.size w w' := by
  have H31 : Hid (∀ W, Below w.heap.size w W → Calls Tryz.prog 31 #[.slice ao a.length ac, .slice bo b.length bc, .func (.func 32) #[] #[]] W fun e w' => e = .returned (.bool (nsEq a b)) ∧ Below W.heap.size W w') := fun W hW => eqf31 a b ao bo ac bc W (ha.below hW) (hb.below hW)
  have HB : Hid (∀ o o', Below w.heap.size w ((w.alloc o).alloc o')) := fun o o' => ((Below.refl _ w).alloc (Nat.le_refl _) o).alloc (by simp) o'
  clear ha hb
  generalize nsEq a b = R at *
  generalize a.length = m at *
  generalize b.length = p at *
  go_enter Tryz.func14, Tryz.ntmps14
  go_wp2_with fail
  refine (H31.out _ (HB.out _ _)).mono ?_
  rintro e w2 ⟨rfl, hb2⟩
  have HB2 : Hid (Below w.heap.size w w2) := (HB.out _ _).trans (hb2.mono (HB.out _ _).size)
  clear hb2
  go_wp2
  go_ret
  exact ⟨rfl, HB2.out⟩
set_option maxRecDepth 100000 in
set_option maxHeartbeats 4000000 in
theorem rsame15 (a b : List Nd) (ao bo : Option Addr) (ac bc : Nat) (w : World) (ha : NdS w ao ac a) (hb : NdS w bo bc b) : Calls Tryz.prog 15 #[.agg #[.slice ao a.length ac], .agg #[.slice bo b.length bc]] w fun e w' => e = .returned (.bool (nsEq a b)) ∧ Below w.heap.size w w' := by
  obtain ⟨k1, k2, k0, k3⟩ := ha
  obtain ⟨g1, g2, g0, g3⟩ := hb
  obtain ⟨m, hm⟩ : ∃ m, m = a.length := ⟨_, rfl⟩
  obtain ⟨p, hp⟩ : ∃ p, p = b.length := ⟨_, rfl⟩
  rw [← hm] at k1 k3 ⊢
  rw [← hp] at g1 g3 ⊢
  have HN : Hid (m = a.length ∧ p = b.length) := ⟨hm, hp⟩
  have c53 := cells53
  have c3 := cells3'
  have K3 : Hid (0 < m → ∃ g o, ao = some ⟨g, o, none⟩ ∧ ∀ i x, a[i]? = some x → ∀ j y, (ndc x)[j]? = some y → w.cell? ⟨g, o + i * 6 + j, none⟩ = some y) := k3
  have G3 : Hid (0 < p → ∃ g o, bo = some ⟨g, o, none⟩ ∧ ∀ i x, b[i]? = some x → ∀ j y, (ndc x)[j]? = some y → w.cell? ⟨g, o + i * 6 + j, none⟩ = some y) := g3
  have K0 : Hid ((∀ x ∈ a, IsA w x.ka x.kc x.ks) ∧ ∀ x ∈ b, IsA w x.ka x.kc x.ks) := ⟨k0, g0⟩
  have HB : Hid (∀ o o', Below w.heap.size w ((w.alloc o).alloc o')) := fun o o' => ((Below.refl _ w).alloc (Nat.le_refl _) o).alloc (by simp) o'
  generalize hR : nsEq a b = R at *
  have HR : Hid (nsEq a b = R) := hR
  clear hm hp k3 g3 k0 g0 hR
  by_cases hmp : m = p
  · subst hmp
    go_enter Tryz.func15, Tryz.ntmps15
    go_wp2
    go_loopw [5, 6, 7, 8, 19] (fun _ _ _ _ i wx => ∃ j : Nat, j ≤ m ∧ i = .int .i64 j ∧ Below w.heap.size w wx ∧ wx.cell? ⟨w.heap.size + 1, 0, none⟩ = some (.slice bo m bc) ∧ nsEq (a.take j) (b.take j) = true) (fun _ _ _ _ i _ => m - (intOf i).toNat)
    case atStart => exact ⟨0, Nat.zero_le _, rfl, HB.out _ _, by simp, rfl⟩
    case round =>
      obtain ⟨j, hj, rfl, hB, hcb, hT⟩ := hrel
      have HT : Hid (nsEq (a.take j) (b.take j) = true) := hT
      have HBr : Hid (Below w.heap.size w wr) := hB
      clear hT
      by_cases hlt : j < m
      · obtain ⟨x, hx⟩ : ∃ x, a[j]? = some x := ⟨_, List.getElem?_eq_getElem (by have := HN.out.1; omega)⟩
        obtain ⟨y, hy⟩ : ∃ y, b[j]? = some y := ⟨_, List.getElem?_eq_getElem (by have := HN.out.2; omega)⟩
        obtain ⟨ga, oa, rfl, hac⟩ := K3.out (by omega)
        obtain ⟨gb, ob, rfl, hbc⟩ := G3.out (by omega)
        obtain ⟨y0, y1, y2, y3, y4, y5⟩ := nd_cells hac hx
        obtain ⟨z0, z1, z2, z3, z4, z5⟩ := nd_cells hbc hy
        have hga : ga < w.heap.size := World.block_lt_of_cell? _ _ y0
        have hgb : gb < w.heap.size := World.block_lt_of_cell? _ _ z0
        have a0 := ((bcell hB).1 ga _ hga).trans y0
        have a1 := ((bcell hB).1 ga _ hga).trans y1
        have a2 := ((bcell hB).1 ga _ hga).trans y2
        have a3 := ((bcell hB).1 ga _ hga).trans y3
        have a4 := ((bcell hB).1 ga _ hga).trans y4
        have a5 := ((bcell hB).1 ga _ hga).trans y5
        have b0 := ((bcell hB).1 gb _ hgb).trans z0
        have b1 := ((bcell hB).1 gb _ hgb).trans z1
        have b2 := ((bcell hB).1 gb _ hgb).trans z2
        have b3 := ((bcell hB).1 gb _ hgb).trans z3
        have b4 := ((bcell hB).1 gb _ hgb).trans z4
        have b5 := ((bcell hB).1 gb _ hgb).trans z5
        have hgw : gb < wr.heap.size := by have := hB.size; omega
        have hbA : ∀ o i, (wr.alloc o).cell? ⟨gb, i, none⟩ = wr.cell? ⟨gb, i, none⟩ := fun o i => (bcell ((Below.refl _ wr).alloc (Nat.le_refl _) o)).1 gb i hgw
        have hwb : w.heap.size + 1 < wr.heap.size := World.block_lt_of_cell? _ _ hcb
        have hcA : ∀ o i, (wr.alloc o).cell? ⟨w.heap.size + 1, i, none⟩ = wr.cell? ⟨w.heap.size + 1, i, none⟩ := fun o i => (bcell ((Below.refl _ wr).alloc (Nat.le_refl _) o)).1 _ i hwb
        have HV : Hid (nsEq (a.take (j + 1)) (b.take (j + 1)) = ndEq x y ∧ (ndEq x y = false → R = false)) := by
          refine ⟨nsEq_next j x y HT.out hx hy, fun h => ?_⟩
          rw [← HR.out, ← Bool.not_eq_true]
          intro hh
          rw [nsEq_at j x y hh hx hy] at h
          cases h
        have hIx := K0.out.1 x (List.mem_of_getElem? hx)
        have hIy := K0.out.2 y (List.mem_of_getElem? hy)
        have HBa : Hid (∀ o o', Below w.heap.size w ((wr.alloc o).alloc o')) := fun o o' => (HBr.out.alloc HBr.out.size o).alloc (by have := HBr.out.size; simp; omega) o'
        have HBb : Hid (∀ o o', Below wr.heap.size wr ((wr.alloc o).alloc o')) := fun o o' => ((Below.refl _ wr).alloc (Nat.le_refl _) o).alloc (by simp) o'
        have HIx : Hid (IsA wr x.ka x.kc x.ks) := hIx.below hB
        have HIy : Hid (IsA wr y.ka y.kc y.ks) := hIy.below hB
        have HCb : Hid (∀ o o', ((wr.alloc o).alloc o').cell? ⟨w.heap.size + 1, 0, none⟩ = some (.slice (some ⟨gb, ob, none⟩) m bc)) := fun o o' => ((bcell (HBb.out o o')).1 _ 0 hwb).trans hcb
        unfold ndEq at HV
        have hxl := ByteArray.toList_eq x.nm
        have hyl := ByteArray.toList_eq y.nm
        clear hac hbc hx hy y0 y1 y2 y3 y4 y5 z0 z1 z2 z3 z4 z5 hB hIx hIy
        obtain ⟨xk, xn, xv, xa, xc, xs, xf, xe⟩ := x
        obtain ⟨yk, yn, yv, ya, yc, ys, yf, ye⟩ := y
        simp only at *
        by_cases h1 : xk = yk
        · subst h1
          by_cases h2 : xn.data.toList = yn.data.toList
          · by_cases h3 : xv = yv
            · subst h3
              obtain ⟨xl, hxl'⟩ : ∃ n, n = xs.length := ⟨_, rfl⟩
              obtain ⟨yl, hyl'⟩ : ∃ n, n = ys.length := ⟨_, rfl⟩
              have HL : Hid (xl = xs.length ∧ yl = ys.length) := ⟨hxl', hyl'⟩
              rw [← hxl'] at a3
              rw [← hyl'] at b3
              by_cases h4 : xl = yl
              · subst h4
                have HV2 : Hid (nsEq (a.take (j + 1)) (b.take (j + 1)) = (xs == ys) ∧ ((xs == ys) = false → R = false)) := by
                  have t := HV.out
                  simp only [h2, beq_self_eq_true, Bool.true_and] at t
                  exact t
                clear HV hxl' hyl'
                have HO : Hid (∀ W, Below wr.heap.size wr W → IsA W xa xc xs ∧ IsA W ya yc ys ∧ Below w.heap.size w W ∧ W.cell? ⟨w.heap.size + 1, 0, none⟩ = some (.slice (some ⟨gb, ob, none⟩) m bc)) := fun W hW => ⟨HIx.out.below hW, HIy.out.below hW, HBr.out.trans (hW.mono HBr.out.size), ((bcell hW).1 _ 0 hwb).trans hcb⟩
                have hxc : xl ≤ xc := by have := HIx.out.1; have := HL.out.1; omega
                have hyc : xl ≤ yc := by have := HIy.out.1; have := HL.out.2; omega
                have hxc2 : xc ≤ 9223372036854775807 := HIx.out.2.1
                have hyc2 : yc ≤ 9223372036854775807 := HIy.out.2.1
                go_wp2
                clear a0 a1 a2 a3 a4 a5 b0 b1 b2 b3 b4 b5
                go_loopw [8, 60] (fun _ i wx => ∃ q : Nat, q ≤ xl ∧ i = .int .i64 q ∧ Below wr.heap.size wr wx ∧ wx.cell? ⟨wr.heap.size, 3, none⟩ = some (.slice xa xl xc) ∧ wx.cell? ⟨wr.heap.size + 1, 3, none⟩ = some (.slice ya xl yc) ∧ xs.take q = ys.take q) (fun _ i _ => xl - (intOf i).toNat)
                case atStart => exact ⟨0, Nat.zero_le _, rfl, HBb.out _ _, by simp, by simp, rfl⟩
                case round =>
                  obtain ⟨q, hq, rfl, hB, d3, f3, hE⟩ := hrel
                  have HO2 := (show Hid _ from HO.out _ hB)
                  have HBq : Hid _ := hB
                  have HE : Hid (xs.take q = ys.take q) := hE
                  clear hB hE
                  by_cases hql : q < xl
                  · obtain ⟨u, hu⟩ : ∃ u, xs[q]? = some u := ⟨_, List.getElem?_eq_getElem (by have := HL.out.1; omega)⟩
                    obtain ⟨v, hv⟩ : ∃ v, ys[q]? = some v := ⟨_, List.getElem?_eq_getElem (by have := HL.out.2; omega)⟩
                    obtain ⟨gx, ox, rfl, hxc'⟩ := HO2.out.1.2.2 (by have := HL.out.1; omega)
                    obtain ⟨gy, oy, rfl, hyc'⟩ := HO2.out.2.1.2.2 (by have := HL.out.2; omega)
                    have p0 := hxc' q u hu
                    have p1 := hyc' q v hv
                    have HU : Hid (xs[q]? = some u ∧ ys[q]? = some v) := ⟨hu, hv⟩
                    have hqx : (q : Int) < (xl : Int) := by omega
                    clear hxc' hyc' hu hv
                    by_cases huv : u = v
                    · subst huv
                      have HE2 : Hid (xs.take (q + 1) = ys.take (q + 1)) := by
                        show _ = _
                        rw [List.take_add_one, List.take_add_one, HU.out.1, HU.out.2, HE.out]
                      go_wp2_with fail
                      go_quiet (fail)
                      have HBd := (show Hid _ from HBq.out.trans ((drew_below wr nq).mono HBq.out.size))
                      go_wp2
                      exact ⟨⟨q + 1, by omega, by go_num, HBd.out, d3, f3, HE2.out⟩, by simp [intOf]; omega⟩
                    · obtain rfl : R = false := HV2.out.2 (by
                        rw [beq_eq_false_iff_ne]
                        intro e
                        have t := HU.out
                        rw [e] at t
                        exact huv (Option.some.inj (t.1.symm.trans t.2)))
                      have huv2 : (u != v) = true := by simpa using huv
                      go_wp2_with fail
                      go_quiet (fail)
                      have HBd := (show Hid _ from HBq.out.trans ((drew_below wr nq).mono HBq.out.size))
                      have HOd := (show Hid _ from (HO.out _ HBd.out).2.2.1)
                      go_wp2
                      go_ret
                      exact ⟨rfl, HOd.out⟩
                  · obtain rfl : q = xl := by omega
                    have hxy : xs = ys := by
                      have e1 : xs.take q = xs := List.take_of_length_le (by have := HL.out.1; omega)
                      have e2 : ys.take q = ys := List.take_of_length_le (by have := HL.out.2; omega)
                      rw [← e1, ← e2, HE.out]
                    have HV3 : Hid (nsEq (a.take (j + 1)) (b.take (j + 1)) = true) := by
                      have t := HV2.out.1
                      rw [hxy] at t
                      have t2 : nsEq (a.take (j + 1)) (b.take (j + 1)) = true := by simpa using t
                      exact t2
                    clear hxy
                    go_wp2
                    exact ⟨⟨j + 1, by omega, by go_num, HO2.out.2.2.1, HO2.out.2.2.2, HV3.out⟩, by simp [intOf]; omega⟩
              · have e4 : (xs == ys) = false := by
                  rw [beq_eq_false_iff_ne]
                  intro e
                  exact h4 (by rw [hxl', hyl', e])
                obtain rfl : R = false := HV.out.2 (by rw [e4]; simp)
                have hne : ((xl : Int) != (yl : Int)) = true := by simp; omega
                clear hxl' hyl'
                go_wp2
                go_ret
                exact ⟨rfl, HBa.out _ _⟩
            · have e3 : (xv == yv) = false := by simpa using h3
              obtain rfl : R = false := HV.out.2 (by rw [e3]; simp)
              go_wp2
              go_ret
              exact ⟨rfl, HBa.out _ _⟩
          · have e2 : (xn.data.toList == yn.data.toList) = false := by simpa using h2
            obtain rfl : R = false := HV.out.2 (by rw [e2]; simp)
            go_wp2
            go_ret
            exact ⟨rfl, HBa.out _ _⟩
        · have e1 : (xk == yk) = false := by simpa using h1
          obtain rfl : R = false := HV.out.2 (by rw [e1]; simp)
          go_wp2
          go_ret
          exact ⟨rfl, HBa.out _ _⟩
      · obtain rfl : j = m := by omega
        have hta : a.take j = a := List.take_of_length_le (by have := HN.out.1; omega)
        have htb : b.take j = b := List.take_of_length_le (by have := HN.out.2; omega)
        have hR : R = true := by rw [← HR.out, ← HT.out, hta, htb]
        subst hR
        clear hta htb hB
        go_wp2
        go_ret
        exact ⟨rfl, HBr.out⟩
  · have hR : R = false := by
      rw [← HR.out, ← Bool.not_eq_true]
      intro h
      have := nsEq_len h
      have := HN.out
      omega
    subst hR
    have hne : ((m : Int) != (p : Int)) = true := by simp; omega
    go_enter Tryz.func15, Tryz.ntmps15
    go_wp2
    go_ret
    exact ⟨rfl, HB.out _ _⟩
end Go.Proofs.YtkkmeogehapjoaaGreatDoor

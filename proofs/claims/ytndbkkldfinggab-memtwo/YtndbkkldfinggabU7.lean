/- The walk of MemTwo. -/
import Derived.Test.YtndbkkldfinggabU6
import Derived.Test.YtndbkkldfinggabH2
namespace Go.Proofs.Ytndbkkldfinggab
open Go.RowKit Go.Shelf
theorem Mo.but {W W' : World} {b r : Nat} {ps qs : List Pgd} {bt : Nat → Nat → Int} (h : Mo W b r ps bt) (hb : But qs W.heap.size W W') (h1 : ∀ x ∈ qs, b ≠ x.g) (h2 : ∀ x ∈ qs, r ≠ x.g) (h3 : ∀ y ∈ ps, ∀ x ∈ qs, y.g ≠ x.g) : Mo W' b r ps bt := by
  have F : ∀ k, k < W.heap.size → (∀ x ∈ qs, k ≠ x.g) → W'.heap[k]? = W.heap[k]? := fun k hk hn => hb.block k hk hn
  have lb := lt_of_cell h.mm.cell
  have lr := lt_of_some h.mm.map
  refine ⟨⟨?_, (F r lr h2).trans h.mm.map, fun x hxm j hj => ?_, h.mm.small, h.mm.caps⟩, fun x hxm => ?_, h.apart⟩
  · have t := h.mm.cell; simp only [World.cell?, F b lb h1] at t ⊢; exact t
  · have t := h.mm.data x hxm j hj; simp only [World.cell?, F x.g (h.ne hxm).2.2 (h3 x hxm)] at t ⊢; exact t
  · obtain ⟨cur, hc⟩ := h.own x hxm; exact ⟨cur, (F x.g (h.ne hxm).2.2 (h3 x hxm)).trans hc⟩
set_option maxRecDepth 20000 in
set_option maxHeartbeats 1000000 in
theorem law8_odd {v : Value} {len : Nat} {k p : Nat → Int} {ao : Nat → Option Addr} {bl bc : Nat → Nat} {Y : Nat → Nat → Int} (a n u a' u' : Int) (w : World) (h : PgArg w v len k p ao bl bc Y) (hN : ¬ (n = 1 ∨ n = 2 ∨ n = 4 ∨ n = 8)) : Calls Try.prog 8 #[.agg #[v, .int .u64 a, .int .i64 n, .int .u64 u], .int .u64 a', .int .u64 u'] w fun e w' => e = .returned (.bool true) ∧ Below w.heap.size w w' := by
  obtain ⟨vA, vc, hv, -, -⟩ := h.shape
  have HH : Hid (PgArg w v len k p ao bl bc Y) := h
  clear h
  subst hv
  go_enter Try.func8, Try.ntmps8
  go_wp2_with fail
  obtain ⟨w0, hw0⟩ : ∃ w0, (w.alloc (.cells #[.slice vA len vc, .int .u64 a, .int .i64 n, .int .u64 u] 25)) = w0 := ⟨_, rfl⟩
  have hnew := World.alloc_heap_new w (.cells #[.slice vA len vc, .int .u64 a, .int .i64 n, .int .u64 u] 25)
  rw [hw0] at hnew
  have k0 : w0.cell? ⟨w.heap.size, 0, none⟩ = some (.slice vA len vc) := by simp [World.cell?, hnew]
  have k1 : w0.cell? ⟨w.heap.size, 1, none⟩ = some (.int .u64 a) := by simp [World.cell?, hnew]
  have k2 : w0.cell? ⟨w.heap.size, 2, none⟩ = some (.int .i64 n) := by simp [World.cell?, hnew]
  have k3 : w0.cell? ⟨w.heap.size, 3, none⟩ = some (.int .u64 u) := by simp [World.cell?, hnew]
  have hs : w.heap.size + 1 = w0.heap.size := by rw [← hw0]; simp
  have HB : Hid (Below w.heap.size w w0) := by have : Below w.heap.size w w0 := by { rw [← hw0]; exact (Below.refl _ w).alloc (Nat.le_refl _) _ }; exact this
  rw [hw0]
  clear hw0 hnew
  refine (from_any w0 (HH.out.below HB.out)).mono ?_
  rintro e w1 ⟨hb, hcs⟩
  have HB1 : Hid (Below w0.heap.size w0 w1) := hb
  have j0 : w1.cell? ⟨w.heap.size, 0, none⟩ = some (.slice vA len vc) := (hb.cell (p := ⟨w.heap.size, 0, none⟩) (by show w.heap.size < _; omega)).trans k0
  have j1 : w1.cell? ⟨w.heap.size, 1, none⟩ = some (.int .u64 a) := (hb.cell (p := ⟨w.heap.size, 1, none⟩) (by show w.heap.size < _; omega)).trans k1
  have j2 : w1.cell? ⟨w.heap.size, 2, none⟩ = some (.int .i64 n) := (hb.cell (p := ⟨w.heap.size, 2, none⟩) (by show w.heap.size < _; omega)).trans k2
  have j3 : w1.cell? ⟨w.heap.size, 3, none⟩ = some (.int .u64 u) := (hb.cell (p := ⟨w.heap.size, 3, none⟩) (by show w.heap.size < _; omega)).trans k3
  have hz1 := hb.size
  clear hb k0 k1 k2 k3
  have HSp : Hid (∀ W, Calls Try.prog 10 #[] W fun e w' => e = .returned (.bool true) ∧ Below W.heap.size W w') := speaks11
  have n1 : (n != 1) = true := by simp; omega
  have n2 : (n != 2) = true := by simp; omega
  have n4 : (n != 4) = true := by simp; omega
  have n8 : (n != 8) = true := by simp; omega
  rcases hcs with ⟨hne, rfl⟩ | ⟨hz, hl, rfl, psA, hF⟩
  · have hnb : (errE len k p bl != 0) = true := by simpa using hne
    go_wp2_with fail
    refine (from_any w1 ((HH.out.below HB.out).below HB1.out)).mono ?_
    rintro e w2 ⟨hb, hcs2⟩
    have HB2 : Hid (Below w1.heap.size w1 w2) := hb
    have i0 : w2.cell? ⟨w.heap.size, 0, none⟩ = some (.slice vA len vc) := (hb.cell (p := ⟨w.heap.size, 0, none⟩) (by show w.heap.size < _; omega)).trans j0
    have i1 : w2.cell? ⟨w.heap.size, 1, none⟩ = some (.int .u64 a) := (hb.cell (p := ⟨w.heap.size, 1, none⟩) (by show w.heap.size < _; omega)).trans j1
    have i2 : w2.cell? ⟨w.heap.size, 2, none⟩ = some (.int .i64 n) := (hb.cell (p := ⟨w.heap.size, 2, none⟩) (by show w.heap.size < _; omega)).trans j2
    have i3 : w2.cell? ⟨w.heap.size, 3, none⟩ = some (.int .u64 u) := (hb.cell (p := ⟨w.heap.size, 3, none⟩) (by show w.heap.size < _; omega)).trans j3
    have hz2 := hb.size
    have HW : Hid (Below w.heap.size w w2) := (HB.out.trans (HB1.out.mono (by omega))).trans (HB2.out.mono (by omega))
    clear hb j0 j1 j2 j3
    rcases hcs2 with ⟨hne2, rfl⟩ | ⟨hz, hl, rfl, psB, hF2⟩
    · have HWW := HW
      go_wp2_with fail
      refine (HSp.out _).mono ?_
      rintro e w9 ⟨rfl, hb⟩
      have HB9 : Hid (Below w.heap.size w w9) := HWW.out.trans (hb.mono HWW.out.size)
      clear hb
      go_wp2
      go_ret
      exact ⟨rfl, HB9.out⟩
    · exact absurd hz hne
  · clear hF
    go_wp2_with fail
    refine (from_any w1 ((HH.out.below HB.out).below HB1.out)).mono ?_
    rintro e w2 ⟨hb, hcs2⟩
    have HB2 : Hid (Below w1.heap.size w1 w2) := hb
    have i0 : w2.cell? ⟨w.heap.size, 0, none⟩ = some (.slice vA len vc) := (hb.cell (p := ⟨w.heap.size, 0, none⟩) (by show w.heap.size < _; omega)).trans j0
    have i1 : w2.cell? ⟨w.heap.size, 1, none⟩ = some (.int .u64 a) := (hb.cell (p := ⟨w.heap.size, 1, none⟩) (by show w.heap.size < _; omega)).trans j1
    have i2 : w2.cell? ⟨w.heap.size, 2, none⟩ = some (.int .i64 n) := (hb.cell (p := ⟨w.heap.size, 2, none⟩) (by show w.heap.size < _; omega)).trans j2
    have i3 : w2.cell? ⟨w.heap.size, 3, none⟩ = some (.int .u64 u) := (hb.cell (p := ⟨w.heap.size, 3, none⟩) (by show w.heap.size < _; omega)).trans j3
    have hz2 := hb.size
    have HW : Hid (Below w.heap.size w w2) := (HB.out.trans (HB1.out.mono (by omega))).trans (HB2.out.mono (by omega))
    clear hb j0 j1 j2 j3
    rcases hcs2 with ⟨hne2, rfl⟩ | ⟨hz2, hl2, rfl, psB, hF2⟩
    · exact absurd hz hne2
    · have HWW := HW
      clear hF2
      go_wp2_with fail
      refine (HSp.out _).mono ?_
      rintro e w9 ⟨rfl, hb⟩
      have HB9 : Hid (Below w.heap.size w w9) := HWW.out.trans (hb.mono HWW.out.size)
      clear hb
      go_wp2
      go_ret
      exact ⟨rfl, HB9.out⟩
set_option maxRecDepth 20000 in
set_option maxHeartbeats 1000000 in
theorem law8_1 {v : Value} {len : Nat} {k p : Nat → Int} {ao : Nat → Option Addr} {bl bc : Nat → Nat} {Y : Nat → Nat → Int} (a u a' u' : Int) (a0 : 0 ≤ a) (u0 : 0 ≤ u) (u1 : u < 18446744073709551616) (a'0 : 0 ≤ a') (u'0 : 0 ≤ u') (u'1 : u' < 18446744073709551616) (w : World) (h : PgArg w v len k p ao bl bc Y) : Calls Try.prog 8 #[.agg #[v, .int .u64 a, .int .i64 1, .int .u64 u], .int .u64 a', .int .u64 u'] w fun e w' => e = .returned (.bool true) ∧ Below w.heap.size w w' := by
  obtain ⟨vA, vc, hv, -, -⟩ := h.shape
  have HH : Hid (PgArg w v len k p ao bl bc Y) := h
  clear h
  subst hv
  go_enter Try.func8, Try.ntmps8
  go_wp2_with fail
  obtain ⟨w0, hw0⟩ : ∃ w0, (w.alloc (.cells #[.slice vA len vc, .int .u64 a, .int .i64 1, .int .u64 u] 25)) = w0 := ⟨_, rfl⟩
  have hnew := World.alloc_heap_new w (.cells #[.slice vA len vc, .int .u64 a, .int .i64 1, .int .u64 u] 25)
  rw [hw0] at hnew
  have k0 : w0.cell? ⟨w.heap.size, 0, none⟩ = some (.slice vA len vc) := by simp [World.cell?, hnew]
  have k1 : w0.cell? ⟨w.heap.size, 1, none⟩ = some (.int .u64 a) := by simp [World.cell?, hnew]
  have k2 : w0.cell? ⟨w.heap.size, 2, none⟩ = some (.int .i64 1) := by simp [World.cell?, hnew]
  have k3 : w0.cell? ⟨w.heap.size, 3, none⟩ = some (.int .u64 u) := by simp [World.cell?, hnew]
  have hs : w.heap.size + 1 = w0.heap.size := by rw [← hw0]; simp
  have HB : Hid (Below w.heap.size w w0) := by have : Below w.heap.size w w0 := by { rw [← hw0]; exact (Below.refl _ w).alloc (Nat.le_refl _) _ }; exact this
  rw [hw0]
  clear hw0 hnew
  refine (from_any w0 (HH.out.below HB.out)).mono ?_
  rintro e w1 ⟨hb, hcs⟩
  have HB1 : Hid (Below w0.heap.size w0 w1) := hb
  have j0 : w1.cell? ⟨w.heap.size, 0, none⟩ = some (.slice vA len vc) := (hb.cell (p := ⟨w.heap.size, 0, none⟩) (by show w.heap.size < _; omega)).trans k0
  have j1 : w1.cell? ⟨w.heap.size, 1, none⟩ = some (.int .u64 a) := (hb.cell (p := ⟨w.heap.size, 1, none⟩) (by show w.heap.size < _; omega)).trans k1
  have j2 : w1.cell? ⟨w.heap.size, 2, none⟩ = some (.int .i64 1) := (hb.cell (p := ⟨w.heap.size, 2, none⟩) (by show w.heap.size < _; omega)).trans k2
  have j3 : w1.cell? ⟨w.heap.size, 3, none⟩ = some (.int .u64 u) := (hb.cell (p := ⟨w.heap.size, 3, none⟩) (by show w.heap.size < _; omega)).trans k3
  have hz1 := hb.size
  clear hb k0 k1 k2 k3
  have HSp : Hid (∀ W, Calls Try.prog 10 #[] W fun e w' => e = .returned (.bool true) ∧ Below W.heap.size W w') := speaks11
  rcases hcs with ⟨hne, rfl⟩ | ⟨hz, hl, rfl, psA, hF⟩
  · have hnb : (errE len k p bl != 0) = true := by simpa using hne
    go_wp2_with fail
    refine (from_any w1 ((HH.out.below HB.out).below HB1.out)).mono ?_
    rintro e w2 ⟨hb, hcs2⟩
    have HB2 : Hid (Below w1.heap.size w1 w2) := hb
    have i0 : w2.cell? ⟨w.heap.size, 0, none⟩ = some (.slice vA len vc) := (hb.cell (p := ⟨w.heap.size, 0, none⟩) (by show w.heap.size < _; omega)).trans j0
    have i1 : w2.cell? ⟨w.heap.size, 1, none⟩ = some (.int .u64 a) := (hb.cell (p := ⟨w.heap.size, 1, none⟩) (by show w.heap.size < _; omega)).trans j1
    have i2 : w2.cell? ⟨w.heap.size, 2, none⟩ = some (.int .i64 1) := (hb.cell (p := ⟨w.heap.size, 2, none⟩) (by show w.heap.size < _; omega)).trans j2
    have i3 : w2.cell? ⟨w.heap.size, 3, none⟩ = some (.int .u64 u) := (hb.cell (p := ⟨w.heap.size, 3, none⟩) (by show w.heap.size < _; omega)).trans j3
    have hz2 := hb.size
    have HW : Hid (Below w.heap.size w w2) := (HB.out.trans (HB1.out.mono (by omega))).trans (HB2.out.mono (by omega))
    clear hb j0 j1 j2 j3
    rcases hcs2 with ⟨hne2, rfl⟩ | ⟨hz, hl, rfl, psB, hF2⟩
    · have HWW := HW
      go_wp2_with fail
      refine (HSp.out _).mono ?_
      rintro e w9 ⟨rfl, hb⟩
      have HB9 : Hid (Below w.heap.size w w9) := HWW.out.trans (hb.mono HWW.out.size)
      clear hb
      go_wp2
      go_ret
      exact ⟨rfl, HB9.out⟩
    · exact absurd hz hne
  · have HFA : Hid (Fr w1 (w0.heap.size + 1) w0.heap.size len k p Y w0.heap.size psA) := hF
    clear hF
    go_wp2_with fail
    refine (from_any w1 ((HH.out.below HB.out).below HB1.out)).mono ?_
    rintro e w2 ⟨hb, hcs2⟩
    have HB2 : Hid (Below w1.heap.size w1 w2) := hb
    have i0 : w2.cell? ⟨w.heap.size, 0, none⟩ = some (.slice vA len vc) := (hb.cell (p := ⟨w.heap.size, 0, none⟩) (by show w.heap.size < _; omega)).trans j0
    have i1 : w2.cell? ⟨w.heap.size, 1, none⟩ = some (.int .u64 a) := (hb.cell (p := ⟨w.heap.size, 1, none⟩) (by show w.heap.size < _; omega)).trans j1
    have i2 : w2.cell? ⟨w.heap.size, 2, none⟩ = some (.int .i64 1) := (hb.cell (p := ⟨w.heap.size, 2, none⟩) (by show w.heap.size < _; omega)).trans j2
    have i3 : w2.cell? ⟨w.heap.size, 3, none⟩ = some (.int .u64 u) := (hb.cell (p := ⟨w.heap.size, 3, none⟩) (by show w.heap.size < _; omega)).trans j3
    have hz2 := hb.size
    have HW : Hid (Below w.heap.size w w2) := (HB.out.trans (HB1.out.mono (by omega))).trans (HB2.out.mono (by omega))
    clear hb j0 j1 j2 j3
    rcases hcs2 with ⟨hne2, rfl⟩ | ⟨hz2', hl2, rfl, psB, hF2⟩
    · exact absurd hz hne2
    have HFB : Hid (Fr w2 (w1.heap.size + 1) w1.heap.size len k p Y w1.heap.size psB) := hF2
    clear hF2
    by_cases ha : 140737488355328 ≤ a
    · have hab : decide (140737488355328 ≤ a) = true := by simpa using ha
      have HWW := HW
      go_wp2_with fail
      refine (HSp.out _).mono ?_
      rintro e w9 ⟨rfl, hb⟩
      have HB9 : Hid (Below w.heap.size w w9) := HWW.out.trans (hb.mono HWW.out.size)
      clear hb
      go_wp2
      go_ret
      exact ⟨rfl, HB9.out⟩
    have hab : decide (140737488355328 ≤ a) = false := by simpa using ha
    by_cases ha' : 140737488355328 ≤ a'
    · have hab' : decide (140737488355328 ≤ a') = true := by simpa using ha'
      have HWW := HW
      go_wp2_with fail
      refine (HSp.out _).mono ?_
      rintro e w9 ⟨rfl, hb⟩
      have HB9 : Hid (Below w.heap.size w w9) := HWW.out.trans (hb.mono HWW.out.size)
      clear hb
      go_wp2
      go_ret
      exact ⟨rfl, HB9.out⟩
    have hab' : decide (140737488355328 ≤ a') = false := by simpa using ha'
    by_cases hov : a' < a + 1 ∧ a < a' + 1
    · obtain ⟨o1, o2⟩ := hov
      have HWW := HW
      go_wp2_with fail
      refine (HSp.out _).mono ?_
      rintro e w9 ⟨rfl, hb⟩
      have HB9 : Hid (Below w.heap.size w w9) := HWW.out.trans (hb.mono HWW.out.size)
      clear hb
      go_wp2
      go_ret
      exact ⟨rfl, HB9.out⟩
    have a1 : a < 140737488355328 := by omega
    have a'1 : a' < 140737488355328 := by omega
    have HY : Hid (∀ i j, 0 ≤ Y i j ∧ Y i j < 256) := HH.out.by_
    have GA : Hid (∀ x ∈ psA, w0.heap.size ≤ x.g) := fun x hx => by obtain ⟨t, ht, rfl⟩ := List.getElem_of_mem hx; exact (HFA.out.at_ t _ (List.getElem?_eq_getElem ht)).2.2.2
    have GB1 : Hid (∀ x ∈ psB, w1.heap.size ≤ x.g) := fun x hx => by obtain ⟨t, ht, rfl⟩ := List.getElem_of_mem hx; exact (HFB.out.at_ t _ (List.getElem?_eq_getElem ht)).2.2.2
    have GB : Hid (∀ x ∈ psB, w0.heap.size ≤ x.g) := fun x hx => Nat.le_trans hz1 (GB1.out x hx)
    have GL : Hid (∀ x ∈ psA, x.g < w1.heap.size) := HFA.out.lt
    have hA1 : w0.heap.size + 1 < w1.heap.size := lt_of_cell HFA.out.cell
    have neA : Hid (∀ x ∈ psA, w0.heap.size + 1 ≠ x.g ∧ w0.heap.size ≠ x.g) := fun x hx => by have := (HFA.out.mo HY.out).ne hx; omega
    have neB : Hid (∀ x ∈ psB, w1.heap.size + 1 ≠ x.g ∧ w1.heap.size ≠ x.g) := fun x hx => by have := (HFB.out.mo HY.out).ne hx; omega
    have DA : Hid ((∀ x ∈ psA, w1.heap.size + 1 ≠ x.g) ∧ (∀ x ∈ psA, w1.heap.size ≠ x.g) ∧ ∀ y ∈ psB, ∀ x ∈ psA, y.g ≠ x.g) := ⟨fun x hx => by have := GL.out x hx; omega, fun x hx => by have := GL.out x hx; omega, fun y hy x hx => by have := GL.out x hx; have := GB1.out y hy; omega⟩
    have DB : Hid ((∀ x ∈ psB, w0.heap.size + 1 ≠ x.g) ∧ (∀ x ∈ psB, w0.heap.size ≠ x.g) ∧ ∀ y ∈ psA, ∀ x ∈ psB, y.g ≠ x.g) := ⟨fun x hx => by have := GB1.out x hx; omega, fun x hx => by have := GB1.out x hx; omega, fun y hy x hx => by have := GL.out y hy; have := GB1.out x hx; omega⟩
    have MA0 : Hid (Mo w2 (w0.heap.size + 1) w0.heap.size psA (btOf w1)) := (HFA.out.mo HY.out).below HB2.out
    have MB0 : Hid (Mo w2 (w1.heap.size + 1) w1.heap.size psB (btOf w2)) := HFB.out.mo HY.out
    have AL : Hid (Alike psA psB) := HFA.out.alike HFB.out
    have BY : Hid (∀ q, pg psA (bs q) ≠ none → byt psA (btOf w1) q = byt psB (btOf w2) q) := HFA.out.byts HFB.out HY.out
    have LN : Hid (psA.length = psB.length ∧ psA.length ≤ 65536) := ⟨by rw [HFA.out.len, HFB.out.len], by rw [HFA.out.len]; omega⟩
    have KA : Hid (∀ x ∈ psA, x.k % 4096 = 0) := fun x hx => by
      obtain ⟨t, ht, rfl⟩ := List.getElem_of_mem hx
      rw [(HFA.out.at_ t _ (List.getElem?_eq_getElem ht)).1]
      have hl' := HFA.out.len
      unfold errE at hz
      rw [if_neg (by omega)] at hz
      exact fromE_al len hz t (by omega)
    have ST : Hid (∀ (W : World) (b r : Nat) (ps : List Pgd) (bt : Nat → Nat → Int) (x y : Int), Mo W b r ps bt → 0 ≤ x → x < 140737488355328 → 0 ≤ y → y < 18446744073709551616 → Calls Try.prog 17 #[.pointer (some ⟨b, 0, none⟩), .int .u64 x, .int .i64 1, .int .u64 y] W fun e w' => e = .returned (.int .i64 (useE ps x 1 2)) ∧ But ps W.heap.size W w' ∧ Mo w' b r ps (stB ps bt x 1 y)) := fun W b r ps bt x y hM h1 h2 h3 h4 => store_any b r ps bt x y 1 W hM h1 (by unfold isN; omega) (by omega) h3 h4
    have UE : Hid (∀ x, useE psB x 1 2 = useE psA x 1 2) := fun x => (use_alike AL.out x 1 2).symm
    have apA := HFA.out.apart'
    have apB := HFB.out.apart'
    have HAP : Hid ((∀ x ∈ psA, ∀ y ∈ psA, x.g = y.g → x = y) ∧ (∀ x ∈ psB, ∀ y ∈ psB, x.g = y.g → x = y)) := ⟨apA, apB⟩
    clear apA apB HFA HFB HH
    generalize btOf w1 = btA at *
    generalize btOf w2 = btB at *
    have hov1 : (decide (a' < a + 1) && decide (a < a' + 1)) = false := by
      by_cases o1 : a' < a + 1
      · have : ¬ a < a' + 1 := fun o2 => hov ⟨o1, o2⟩
        simp [this]
      · simp [o1]
    have hzw : w0.heap.size ≤ w2.heap.size := by omega
    rcases (by by_cases o1 : a' < a + 1
               · exact .inr ⟨o1, fun o2 => hov ⟨o1, o2⟩⟩
               · exact .inl o1 : ¬ a' < a + 1 ∨ (a' < a + 1 ∧ ¬ a < a' + 1)) with o1 | ⟨o1, o2⟩
    all_goals
      go_wp2_with fail
      refine (ST.out w2 _ _ psA _ a u MA0.out a0 a1 u0 u1).mono ?_
      rintro e w3 ⟨rfl, hbut, hmo⟩
      have MA1 : Hid (Mo w3 _ _ psA _) := hmo
      have MB1 : Hid (Mo w3 _ _ psB _) := MB0.out.but hbut DA.out.1 DA.out.2.1 DA.out.2.2
      have hbb : Below w0.heap.size w2 w3 := hbut.below (by omega) GA.out
      have q11 : w3.cell? ⟨w.heap.size, 1, none⟩ = some (.int .u64 a) := (hbb.cell (p := ⟨w.heap.size, 1, none⟩) (by show w.heap.size < _; omega)).trans i1
      have q21 : w3.cell? ⟨w.heap.size, 2, none⟩ = some (.int .i64 1) := (hbb.cell (p := ⟨w.heap.size, 2, none⟩) (by show w.heap.size < _; omega)).trans i2
      have q31 : w3.cell? ⟨w.heap.size, 3, none⟩ = some (.int .u64 u) := (hbb.cell (p := ⟨w.heap.size, 3, none⟩) (by show w.heap.size < _; omega)).trans i3
      have zz1 : w0.heap.size ≤ w3.heap.size := Nat.le_trans (by omega) hbb.size
      have HW1 : Hid (Below w.heap.size w w3) := HW.out.trans (hbb.mono (by omega))
      clear hbut hmo hbb i1 i2 i3
      go_wp2_with fail
      refine (ST.out w3 _ _ psA _ a' u' MA1.out a'0 a'1 u'0 u'1).mono ?_
      rintro e w4 ⟨rfl, hbut, hmo⟩
      have MA2 : Hid (Mo w4 _ _ psA _) := hmo
      have MB2 : Hid (Mo w4 _ _ psB _) := MB1.out.but hbut DA.out.1 DA.out.2.1 DA.out.2.2
      have hbb : Below w0.heap.size w3 w4 := hbut.below (by omega) GA.out
      have q12 : w4.cell? ⟨w.heap.size, 1, none⟩ = some (.int .u64 a) := (hbb.cell (p := ⟨w.heap.size, 1, none⟩) (by show w.heap.size < _; omega)).trans q11
      have q22 : w4.cell? ⟨w.heap.size, 2, none⟩ = some (.int .i64 1) := (hbb.cell (p := ⟨w.heap.size, 2, none⟩) (by show w.heap.size < _; omega)).trans q21
      have q32 : w4.cell? ⟨w.heap.size, 3, none⟩ = some (.int .u64 u) := (hbb.cell (p := ⟨w.heap.size, 3, none⟩) (by show w.heap.size < _; omega)).trans q31
      have zz2 : w0.heap.size ≤ w4.heap.size := Nat.le_trans (by omega) hbb.size
      have HW2 : Hid (Below w.heap.size w w4) := HW1.out.trans (hbb.mono (by omega))
      clear hbut hmo hbb q11 q21 q31
      go_wp2_with fail
      refine (ST.out w4 _ _ psB _ a' u' MB2.out a'0 a'1 u'0 u'1).mono ?_
      rintro e w5 ⟨rfl, hbut, hmo⟩
      have MB3 : Hid (Mo w5 _ _ psB _) := hmo
      have MA3 : Hid (Mo w5 _ _ psA _) := MA2.out.but hbut DB.out.1 DB.out.2.1 DB.out.2.2
      have hbb : Below w0.heap.size w4 w5 := hbut.below (by omega) GB.out
      have q13 : w5.cell? ⟨w.heap.size, 1, none⟩ = some (.int .u64 a) := (hbb.cell (p := ⟨w.heap.size, 1, none⟩) (by show w.heap.size < _; omega)).trans q12
      have q23 : w5.cell? ⟨w.heap.size, 2, none⟩ = some (.int .i64 1) := (hbb.cell (p := ⟨w.heap.size, 2, none⟩) (by show w.heap.size < _; omega)).trans q22
      have q33 : w5.cell? ⟨w.heap.size, 3, none⟩ = some (.int .u64 u) := (hbb.cell (p := ⟨w.heap.size, 3, none⟩) (by show w.heap.size < _; omega)).trans q32
      have zz3 : w0.heap.size ≤ w5.heap.size := Nat.le_trans (by omega) hbb.size
      have HW3 : Hid (Below w.heap.size w w5) := HW2.out.trans (hbb.mono (by omega))
      clear hbut hmo hbb q12 q22 q32
      go_wp2_with fail
      refine (ST.out w5 _ _ psB _ a u MB3.out a0 a1 u0 u1).mono ?_
      rintro e w6 ⟨rfl, hbut, hmo⟩
      have MB4 : Hid (Mo w6 _ _ psB _) := hmo
      have MA4 : Hid (Mo w6 _ _ psA _) := MA3.out.but hbut DB.out.1 DB.out.2.1 DB.out.2.2
      have hbb : Below w0.heap.size w5 w6 := hbut.below (by omega) GB.out
      have q14 : w6.cell? ⟨w.heap.size, 1, none⟩ = some (.int .u64 a) := (hbb.cell (p := ⟨w.heap.size, 1, none⟩) (by show w.heap.size < _; omega)).trans q13
      have q24 : w6.cell? ⟨w.heap.size, 2, none⟩ = some (.int .i64 1) := (hbb.cell (p := ⟨w.heap.size, 2, none⟩) (by show w.heap.size < _; omega)).trans q23
      have q34 : w6.cell? ⟨w.heap.size, 3, none⟩ = some (.int .u64 u) := (hbb.cell (p := ⟨w.heap.size, 3, none⟩) (by show w.heap.size < _; omega)).trans q33
      have zz4 : w0.heap.size ≤ w6.heap.size := Nat.le_trans (by omega) hbb.size
      have HW4 : Hid (Below w.heap.size w w6) := HW3.out.trans (hbb.mono (by omega))
      clear hbut hmo hbb q13 q23 q33
      rw [UE.out a, UE.out a']
      have SM : Hid (Calls Try.prog 19 #[.pointer (some ⟨w0.heap.size + 1, 0, none⟩), .pointer (some ⟨w1.heap.size + 1, 0, none⟩)] w6 fun e w' => e = .returned (.bool true) ∧ Below w6.heap.size w6 w') := same_true _ _ _ _ psA psB _ _ w6 MA4.out.mm MB4.out.mm LN.out.1 LN.out.2 (same_places AL.out KA.out (two_same HAP.out.1 HAP.out.2 AL.out BY.out a u a' u' 1 a0 a'0 (by omega) u0 u'0 hov))
      go_wp2_with fail
      refine SM.out.mono ?_
      rintro e w7 ⟨rfl, hb⟩
      have HWW : Hid (Below w.heap.size w w7) := HW4.out.trans (hb.mono HW4.out.size)
      clear hb
      go_wp2_with fail
      refine (HSp.out _).mono ?_
      rintro e w9 ⟨rfl, hb⟩
      have HB9 : Hid (Below w.heap.size w w9) := HWW.out.trans (hb.mono HWW.out.size)
      clear hb
      go_wp2
      go_ret
      exact ⟨rfl, HB9.out⟩
set_option maxRecDepth 20000 in
set_option maxHeartbeats 1000000 in
theorem law8_2 {v : Value} {len : Nat} {k p : Nat → Int} {ao : Nat → Option Addr} {bl bc : Nat → Nat} {Y : Nat → Nat → Int} (a u a' u' : Int) (a0 : 0 ≤ a) (u0 : 0 ≤ u) (u1 : u < 18446744073709551616) (a'0 : 0 ≤ a') (u'0 : 0 ≤ u') (u'1 : u' < 18446744073709551616) (w : World) (h : PgArg w v len k p ao bl bc Y) : Calls Try.prog 8 #[.agg #[v, .int .u64 a, .int .i64 2, .int .u64 u], .int .u64 a', .int .u64 u'] w fun e w' => e = .returned (.bool true) ∧ Below w.heap.size w w' := by
  obtain ⟨vA, vc, hv, -, -⟩ := h.shape
  have HH : Hid (PgArg w v len k p ao bl bc Y) := h
  clear h
  subst hv
  go_enter Try.func8, Try.ntmps8
  go_wp2_with fail
  obtain ⟨w0, hw0⟩ : ∃ w0, (w.alloc (.cells #[.slice vA len vc, .int .u64 a, .int .i64 2, .int .u64 u] 25)) = w0 := ⟨_, rfl⟩
  have hnew := World.alloc_heap_new w (.cells #[.slice vA len vc, .int .u64 a, .int .i64 2, .int .u64 u] 25)
  rw [hw0] at hnew
  have k0 : w0.cell? ⟨w.heap.size, 0, none⟩ = some (.slice vA len vc) := by simp [World.cell?, hnew]
  have k1 : w0.cell? ⟨w.heap.size, 1, none⟩ = some (.int .u64 a) := by simp [World.cell?, hnew]
  have k2 : w0.cell? ⟨w.heap.size, 2, none⟩ = some (.int .i64 2) := by simp [World.cell?, hnew]
  have k3 : w0.cell? ⟨w.heap.size, 3, none⟩ = some (.int .u64 u) := by simp [World.cell?, hnew]
  have hs : w.heap.size + 1 = w0.heap.size := by rw [← hw0]; simp
  have HB : Hid (Below w.heap.size w w0) := by have : Below w.heap.size w w0 := by { rw [← hw0]; exact (Below.refl _ w).alloc (Nat.le_refl _) _ }; exact this
  rw [hw0]
  clear hw0 hnew
  refine (from_any w0 (HH.out.below HB.out)).mono ?_
  rintro e w1 ⟨hb, hcs⟩
  have HB1 : Hid (Below w0.heap.size w0 w1) := hb
  have j0 : w1.cell? ⟨w.heap.size, 0, none⟩ = some (.slice vA len vc) := (hb.cell (p := ⟨w.heap.size, 0, none⟩) (by show w.heap.size < _; omega)).trans k0
  have j1 : w1.cell? ⟨w.heap.size, 1, none⟩ = some (.int .u64 a) := (hb.cell (p := ⟨w.heap.size, 1, none⟩) (by show w.heap.size < _; omega)).trans k1
  have j2 : w1.cell? ⟨w.heap.size, 2, none⟩ = some (.int .i64 2) := (hb.cell (p := ⟨w.heap.size, 2, none⟩) (by show w.heap.size < _; omega)).trans k2
  have j3 : w1.cell? ⟨w.heap.size, 3, none⟩ = some (.int .u64 u) := (hb.cell (p := ⟨w.heap.size, 3, none⟩) (by show w.heap.size < _; omega)).trans k3
  have hz1 := hb.size
  clear hb k0 k1 k2 k3
  have HSp : Hid (∀ W, Calls Try.prog 10 #[] W fun e w' => e = .returned (.bool true) ∧ Below W.heap.size W w') := speaks11
  rcases hcs with ⟨hne, rfl⟩ | ⟨hz, hl, rfl, psA, hF⟩
  · have hnb : (errE len k p bl != 0) = true := by simpa using hne
    go_wp2_with fail
    refine (from_any w1 ((HH.out.below HB.out).below HB1.out)).mono ?_
    rintro e w2 ⟨hb, hcs2⟩
    have HB2 : Hid (Below w1.heap.size w1 w2) := hb
    have i0 : w2.cell? ⟨w.heap.size, 0, none⟩ = some (.slice vA len vc) := (hb.cell (p := ⟨w.heap.size, 0, none⟩) (by show w.heap.size < _; omega)).trans j0
    have i1 : w2.cell? ⟨w.heap.size, 1, none⟩ = some (.int .u64 a) := (hb.cell (p := ⟨w.heap.size, 1, none⟩) (by show w.heap.size < _; omega)).trans j1
    have i2 : w2.cell? ⟨w.heap.size, 2, none⟩ = some (.int .i64 2) := (hb.cell (p := ⟨w.heap.size, 2, none⟩) (by show w.heap.size < _; omega)).trans j2
    have i3 : w2.cell? ⟨w.heap.size, 3, none⟩ = some (.int .u64 u) := (hb.cell (p := ⟨w.heap.size, 3, none⟩) (by show w.heap.size < _; omega)).trans j3
    have hz2 := hb.size
    have HW : Hid (Below w.heap.size w w2) := (HB.out.trans (HB1.out.mono (by omega))).trans (HB2.out.mono (by omega))
    clear hb j0 j1 j2 j3
    rcases hcs2 with ⟨hne2, rfl⟩ | ⟨hz, hl, rfl, psB, hF2⟩
    · have HWW := HW
      go_wp2_with fail
      refine (HSp.out _).mono ?_
      rintro e w9 ⟨rfl, hb⟩
      have HB9 : Hid (Below w.heap.size w w9) := HWW.out.trans (hb.mono HWW.out.size)
      clear hb
      go_wp2
      go_ret
      exact ⟨rfl, HB9.out⟩
    · exact absurd hz hne
  · have HFA : Hid (Fr w1 (w0.heap.size + 1) w0.heap.size len k p Y w0.heap.size psA) := hF
    clear hF
    go_wp2_with fail
    refine (from_any w1 ((HH.out.below HB.out).below HB1.out)).mono ?_
    rintro e w2 ⟨hb, hcs2⟩
    have HB2 : Hid (Below w1.heap.size w1 w2) := hb
    have i0 : w2.cell? ⟨w.heap.size, 0, none⟩ = some (.slice vA len vc) := (hb.cell (p := ⟨w.heap.size, 0, none⟩) (by show w.heap.size < _; omega)).trans j0
    have i1 : w2.cell? ⟨w.heap.size, 1, none⟩ = some (.int .u64 a) := (hb.cell (p := ⟨w.heap.size, 1, none⟩) (by show w.heap.size < _; omega)).trans j1
    have i2 : w2.cell? ⟨w.heap.size, 2, none⟩ = some (.int .i64 2) := (hb.cell (p := ⟨w.heap.size, 2, none⟩) (by show w.heap.size < _; omega)).trans j2
    have i3 : w2.cell? ⟨w.heap.size, 3, none⟩ = some (.int .u64 u) := (hb.cell (p := ⟨w.heap.size, 3, none⟩) (by show w.heap.size < _; omega)).trans j3
    have hz2 := hb.size
    have HW : Hid (Below w.heap.size w w2) := (HB.out.trans (HB1.out.mono (by omega))).trans (HB2.out.mono (by omega))
    clear hb j0 j1 j2 j3
    rcases hcs2 with ⟨hne2, rfl⟩ | ⟨hz2', hl2, rfl, psB, hF2⟩
    · exact absurd hz hne2
    have HFB : Hid (Fr w2 (w1.heap.size + 1) w1.heap.size len k p Y w1.heap.size psB) := hF2
    clear hF2
    by_cases ha : 140737488355328 ≤ a
    · have hab : decide (140737488355328 ≤ a) = true := by simpa using ha
      have HWW := HW
      go_wp2_with fail
      refine (HSp.out _).mono ?_
      rintro e w9 ⟨rfl, hb⟩
      have HB9 : Hid (Below w.heap.size w w9) := HWW.out.trans (hb.mono HWW.out.size)
      clear hb
      go_wp2
      go_ret
      exact ⟨rfl, HB9.out⟩
    have hab : decide (140737488355328 ≤ a) = false := by simpa using ha
    by_cases ha' : 140737488355328 ≤ a'
    · have hab' : decide (140737488355328 ≤ a') = true := by simpa using ha'
      have HWW := HW
      go_wp2_with fail
      refine (HSp.out _).mono ?_
      rintro e w9 ⟨rfl, hb⟩
      have HB9 : Hid (Below w.heap.size w w9) := HWW.out.trans (hb.mono HWW.out.size)
      clear hb
      go_wp2
      go_ret
      exact ⟨rfl, HB9.out⟩
    have hab' : decide (140737488355328 ≤ a') = false := by simpa using ha'
    by_cases hov : a' < a + 2 ∧ a < a' + 2
    · obtain ⟨o1, o2⟩ := hov
      have HWW := HW
      go_wp2_with fail
      refine (HSp.out _).mono ?_
      rintro e w9 ⟨rfl, hb⟩
      have HB9 : Hid (Below w.heap.size w w9) := HWW.out.trans (hb.mono HWW.out.size)
      clear hb
      go_wp2
      go_ret
      exact ⟨rfl, HB9.out⟩
    have a1 : a < 140737488355328 := by omega
    have a'1 : a' < 140737488355328 := by omega
    have HY : Hid (∀ i j, 0 ≤ Y i j ∧ Y i j < 256) := HH.out.by_
    have GA : Hid (∀ x ∈ psA, w0.heap.size ≤ x.g) := fun x hx => by obtain ⟨t, ht, rfl⟩ := List.getElem_of_mem hx; exact (HFA.out.at_ t _ (List.getElem?_eq_getElem ht)).2.2.2
    have GB1 : Hid (∀ x ∈ psB, w1.heap.size ≤ x.g) := fun x hx => by obtain ⟨t, ht, rfl⟩ := List.getElem_of_mem hx; exact (HFB.out.at_ t _ (List.getElem?_eq_getElem ht)).2.2.2
    have GB : Hid (∀ x ∈ psB, w0.heap.size ≤ x.g) := fun x hx => Nat.le_trans hz1 (GB1.out x hx)
    have GL : Hid (∀ x ∈ psA, x.g < w1.heap.size) := HFA.out.lt
    have hA1 : w0.heap.size + 1 < w1.heap.size := lt_of_cell HFA.out.cell
    have neA : Hid (∀ x ∈ psA, w0.heap.size + 1 ≠ x.g ∧ w0.heap.size ≠ x.g) := fun x hx => by have := (HFA.out.mo HY.out).ne hx; omega
    have neB : Hid (∀ x ∈ psB, w1.heap.size + 1 ≠ x.g ∧ w1.heap.size ≠ x.g) := fun x hx => by have := (HFB.out.mo HY.out).ne hx; omega
    have DA : Hid ((∀ x ∈ psA, w1.heap.size + 1 ≠ x.g) ∧ (∀ x ∈ psA, w1.heap.size ≠ x.g) ∧ ∀ y ∈ psB, ∀ x ∈ psA, y.g ≠ x.g) := ⟨fun x hx => by have := GL.out x hx; omega, fun x hx => by have := GL.out x hx; omega, fun y hy x hx => by have := GL.out x hx; have := GB1.out y hy; omega⟩
    have DB : Hid ((∀ x ∈ psB, w0.heap.size + 1 ≠ x.g) ∧ (∀ x ∈ psB, w0.heap.size ≠ x.g) ∧ ∀ y ∈ psA, ∀ x ∈ psB, y.g ≠ x.g) := ⟨fun x hx => by have := GB1.out x hx; omega, fun x hx => by have := GB1.out x hx; omega, fun y hy x hx => by have := GL.out y hy; have := GB1.out x hx; omega⟩
    have MA0 : Hid (Mo w2 (w0.heap.size + 1) w0.heap.size psA (btOf w1)) := (HFA.out.mo HY.out).below HB2.out
    have MB0 : Hid (Mo w2 (w1.heap.size + 1) w1.heap.size psB (btOf w2)) := HFB.out.mo HY.out
    have AL : Hid (Alike psA psB) := HFA.out.alike HFB.out
    have BY : Hid (∀ q, pg psA (bs q) ≠ none → byt psA (btOf w1) q = byt psB (btOf w2) q) := HFA.out.byts HFB.out HY.out
    have LN : Hid (psA.length = psB.length ∧ psA.length ≤ 65536) := ⟨by rw [HFA.out.len, HFB.out.len], by rw [HFA.out.len]; omega⟩
    have KA : Hid (∀ x ∈ psA, x.k % 4096 = 0) := fun x hx => by
      obtain ⟨t, ht, rfl⟩ := List.getElem_of_mem hx
      rw [(HFA.out.at_ t _ (List.getElem?_eq_getElem ht)).1]
      have hl' := HFA.out.len
      unfold errE at hz
      rw [if_neg (by omega)] at hz
      exact fromE_al len hz t (by omega)
    have ST : Hid (∀ (W : World) (b r : Nat) (ps : List Pgd) (bt : Nat → Nat → Int) (x y : Int), Mo W b r ps bt → 0 ≤ x → x < 140737488355328 → 0 ≤ y → y < 18446744073709551616 → Calls Try.prog 17 #[.pointer (some ⟨b, 0, none⟩), .int .u64 x, .int .i64 2, .int .u64 y] W fun e w' => e = .returned (.int .i64 (useE ps x 2 2)) ∧ But ps W.heap.size W w' ∧ Mo w' b r ps (stB ps bt x 2 y)) := fun W b r ps bt x y hM h1 h2 h3 h4 => store_any b r ps bt x y 2 W hM h1 (by unfold isN; omega) (by omega) h3 h4
    have UE : Hid (∀ x, useE psB x 2 2 = useE psA x 2 2) := fun x => (use_alike AL.out x 2 2).symm
    have apA := HFA.out.apart'
    have apB := HFB.out.apart'
    have HAP : Hid ((∀ x ∈ psA, ∀ y ∈ psA, x.g = y.g → x = y) ∧ (∀ x ∈ psB, ∀ y ∈ psB, x.g = y.g → x = y)) := ⟨apA, apB⟩
    clear apA apB HFA HFB HH
    generalize btOf w1 = btA at *
    generalize btOf w2 = btB at *
    have hov1 : (decide (a' < a + 2) && decide (a < a' + 2)) = false := by
      by_cases o1 : a' < a + 2
      · have : ¬ a < a' + 2 := fun o2 => hov ⟨o1, o2⟩
        simp [this]
      · simp [o1]
    have hzw : w0.heap.size ≤ w2.heap.size := by omega
    rcases (by by_cases o1 : a' < a + 2
               · exact .inr ⟨o1, fun o2 => hov ⟨o1, o2⟩⟩
               · exact .inl o1 : ¬ a' < a + 2 ∨ (a' < a + 2 ∧ ¬ a < a' + 2)) with o1 | ⟨o1, o2⟩
    all_goals
      go_wp2_with fail
      refine (ST.out w2 _ _ psA _ a u MA0.out a0 a1 u0 u1).mono ?_
      rintro e w3 ⟨rfl, hbut, hmo⟩
      have MA1 : Hid (Mo w3 _ _ psA _) := hmo
      have MB1 : Hid (Mo w3 _ _ psB _) := MB0.out.but hbut DA.out.1 DA.out.2.1 DA.out.2.2
      have hbb : Below w0.heap.size w2 w3 := hbut.below (by omega) GA.out
      have q11 : w3.cell? ⟨w.heap.size, 1, none⟩ = some (.int .u64 a) := (hbb.cell (p := ⟨w.heap.size, 1, none⟩) (by show w.heap.size < _; omega)).trans i1
      have q21 : w3.cell? ⟨w.heap.size, 2, none⟩ = some (.int .i64 2) := (hbb.cell (p := ⟨w.heap.size, 2, none⟩) (by show w.heap.size < _; omega)).trans i2
      have q31 : w3.cell? ⟨w.heap.size, 3, none⟩ = some (.int .u64 u) := (hbb.cell (p := ⟨w.heap.size, 3, none⟩) (by show w.heap.size < _; omega)).trans i3
      have zz1 : w0.heap.size ≤ w3.heap.size := Nat.le_trans (by omega) hbb.size
      have HW1 : Hid (Below w.heap.size w w3) := HW.out.trans (hbb.mono (by omega))
      clear hbut hmo hbb i1 i2 i3
      go_wp2_with fail
      refine (ST.out w3 _ _ psA _ a' u' MA1.out a'0 a'1 u'0 u'1).mono ?_
      rintro e w4 ⟨rfl, hbut, hmo⟩
      have MA2 : Hid (Mo w4 _ _ psA _) := hmo
      have MB2 : Hid (Mo w4 _ _ psB _) := MB1.out.but hbut DA.out.1 DA.out.2.1 DA.out.2.2
      have hbb : Below w0.heap.size w3 w4 := hbut.below (by omega) GA.out
      have q12 : w4.cell? ⟨w.heap.size, 1, none⟩ = some (.int .u64 a) := (hbb.cell (p := ⟨w.heap.size, 1, none⟩) (by show w.heap.size < _; omega)).trans q11
      have q22 : w4.cell? ⟨w.heap.size, 2, none⟩ = some (.int .i64 2) := (hbb.cell (p := ⟨w.heap.size, 2, none⟩) (by show w.heap.size < _; omega)).trans q21
      have q32 : w4.cell? ⟨w.heap.size, 3, none⟩ = some (.int .u64 u) := (hbb.cell (p := ⟨w.heap.size, 3, none⟩) (by show w.heap.size < _; omega)).trans q31
      have zz2 : w0.heap.size ≤ w4.heap.size := Nat.le_trans (by omega) hbb.size
      have HW2 : Hid (Below w.heap.size w w4) := HW1.out.trans (hbb.mono (by omega))
      clear hbut hmo hbb q11 q21 q31
      go_wp2_with fail
      refine (ST.out w4 _ _ psB _ a' u' MB2.out a'0 a'1 u'0 u'1).mono ?_
      rintro e w5 ⟨rfl, hbut, hmo⟩
      have MB3 : Hid (Mo w5 _ _ psB _) := hmo
      have MA3 : Hid (Mo w5 _ _ psA _) := MA2.out.but hbut DB.out.1 DB.out.2.1 DB.out.2.2
      have hbb : Below w0.heap.size w4 w5 := hbut.below (by omega) GB.out
      have q13 : w5.cell? ⟨w.heap.size, 1, none⟩ = some (.int .u64 a) := (hbb.cell (p := ⟨w.heap.size, 1, none⟩) (by show w.heap.size < _; omega)).trans q12
      have q23 : w5.cell? ⟨w.heap.size, 2, none⟩ = some (.int .i64 2) := (hbb.cell (p := ⟨w.heap.size, 2, none⟩) (by show w.heap.size < _; omega)).trans q22
      have q33 : w5.cell? ⟨w.heap.size, 3, none⟩ = some (.int .u64 u) := (hbb.cell (p := ⟨w.heap.size, 3, none⟩) (by show w.heap.size < _; omega)).trans q32
      have zz3 : w0.heap.size ≤ w5.heap.size := Nat.le_trans (by omega) hbb.size
      have HW3 : Hid (Below w.heap.size w w5) := HW2.out.trans (hbb.mono (by omega))
      clear hbut hmo hbb q12 q22 q32
      go_wp2_with fail
      refine (ST.out w5 _ _ psB _ a u MB3.out a0 a1 u0 u1).mono ?_
      rintro e w6 ⟨rfl, hbut, hmo⟩
      have MB4 : Hid (Mo w6 _ _ psB _) := hmo
      have MA4 : Hid (Mo w6 _ _ psA _) := MA3.out.but hbut DB.out.1 DB.out.2.1 DB.out.2.2
      have hbb : Below w0.heap.size w5 w6 := hbut.below (by omega) GB.out
      have q14 : w6.cell? ⟨w.heap.size, 1, none⟩ = some (.int .u64 a) := (hbb.cell (p := ⟨w.heap.size, 1, none⟩) (by show w.heap.size < _; omega)).trans q13
      have q24 : w6.cell? ⟨w.heap.size, 2, none⟩ = some (.int .i64 2) := (hbb.cell (p := ⟨w.heap.size, 2, none⟩) (by show w.heap.size < _; omega)).trans q23
      have q34 : w6.cell? ⟨w.heap.size, 3, none⟩ = some (.int .u64 u) := (hbb.cell (p := ⟨w.heap.size, 3, none⟩) (by show w.heap.size < _; omega)).trans q33
      have zz4 : w0.heap.size ≤ w6.heap.size := Nat.le_trans (by omega) hbb.size
      have HW4 : Hid (Below w.heap.size w w6) := HW3.out.trans (hbb.mono (by omega))
      clear hbut hmo hbb q13 q23 q33
      rw [UE.out a, UE.out a']
      have SM : Hid (Calls Try.prog 19 #[.pointer (some ⟨w0.heap.size + 1, 0, none⟩), .pointer (some ⟨w1.heap.size + 1, 0, none⟩)] w6 fun e w' => e = .returned (.bool true) ∧ Below w6.heap.size w6 w') := same_true _ _ _ _ psA psB _ _ w6 MA4.out.mm MB4.out.mm LN.out.1 LN.out.2 (same_places AL.out KA.out (two_same HAP.out.1 HAP.out.2 AL.out BY.out a u a' u' 2 a0 a'0 (by omega) u0 u'0 hov))
      go_wp2_with fail
      refine SM.out.mono ?_
      rintro e w7 ⟨rfl, hb⟩
      have HWW : Hid (Below w.heap.size w w7) := HW4.out.trans (hb.mono HW4.out.size)
      clear hb
      go_wp2_with fail
      refine (HSp.out _).mono ?_
      rintro e w9 ⟨rfl, hb⟩
      have HB9 : Hid (Below w.heap.size w w9) := HWW.out.trans (hb.mono HWW.out.size)
      clear hb
      go_wp2
      go_ret
      exact ⟨rfl, HB9.out⟩
set_option maxRecDepth 20000 in
set_option maxHeartbeats 1000000 in
theorem law8_4 {v : Value} {len : Nat} {k p : Nat → Int} {ao : Nat → Option Addr} {bl bc : Nat → Nat} {Y : Nat → Nat → Int} (a u a' u' : Int) (a0 : 0 ≤ a) (u0 : 0 ≤ u) (u1 : u < 18446744073709551616) (a'0 : 0 ≤ a') (u'0 : 0 ≤ u') (u'1 : u' < 18446744073709551616) (w : World) (h : PgArg w v len k p ao bl bc Y) : Calls Try.prog 8 #[.agg #[v, .int .u64 a, .int .i64 4, .int .u64 u], .int .u64 a', .int .u64 u'] w fun e w' => e = .returned (.bool true) ∧ Below w.heap.size w w' := by
  obtain ⟨vA, vc, hv, -, -⟩ := h.shape
  have HH : Hid (PgArg w v len k p ao bl bc Y) := h
  clear h
  subst hv
  go_enter Try.func8, Try.ntmps8
  go_wp2_with fail
  obtain ⟨w0, hw0⟩ : ∃ w0, (w.alloc (.cells #[.slice vA len vc, .int .u64 a, .int .i64 4, .int .u64 u] 25)) = w0 := ⟨_, rfl⟩
  have hnew := World.alloc_heap_new w (.cells #[.slice vA len vc, .int .u64 a, .int .i64 4, .int .u64 u] 25)
  rw [hw0] at hnew
  have k0 : w0.cell? ⟨w.heap.size, 0, none⟩ = some (.slice vA len vc) := by simp [World.cell?, hnew]
  have k1 : w0.cell? ⟨w.heap.size, 1, none⟩ = some (.int .u64 a) := by simp [World.cell?, hnew]
  have k2 : w0.cell? ⟨w.heap.size, 2, none⟩ = some (.int .i64 4) := by simp [World.cell?, hnew]
  have k3 : w0.cell? ⟨w.heap.size, 3, none⟩ = some (.int .u64 u) := by simp [World.cell?, hnew]
  have hs : w.heap.size + 1 = w0.heap.size := by rw [← hw0]; simp
  have HB : Hid (Below w.heap.size w w0) := by have : Below w.heap.size w w0 := by { rw [← hw0]; exact (Below.refl _ w).alloc (Nat.le_refl _) _ }; exact this
  rw [hw0]
  clear hw0 hnew
  refine (from_any w0 (HH.out.below HB.out)).mono ?_
  rintro e w1 ⟨hb, hcs⟩
  have HB1 : Hid (Below w0.heap.size w0 w1) := hb
  have j0 : w1.cell? ⟨w.heap.size, 0, none⟩ = some (.slice vA len vc) := (hb.cell (p := ⟨w.heap.size, 0, none⟩) (by show w.heap.size < _; omega)).trans k0
  have j1 : w1.cell? ⟨w.heap.size, 1, none⟩ = some (.int .u64 a) := (hb.cell (p := ⟨w.heap.size, 1, none⟩) (by show w.heap.size < _; omega)).trans k1
  have j2 : w1.cell? ⟨w.heap.size, 2, none⟩ = some (.int .i64 4) := (hb.cell (p := ⟨w.heap.size, 2, none⟩) (by show w.heap.size < _; omega)).trans k2
  have j3 : w1.cell? ⟨w.heap.size, 3, none⟩ = some (.int .u64 u) := (hb.cell (p := ⟨w.heap.size, 3, none⟩) (by show w.heap.size < _; omega)).trans k3
  have hz1 := hb.size
  clear hb k0 k1 k2 k3
  have HSp : Hid (∀ W, Calls Try.prog 10 #[] W fun e w' => e = .returned (.bool true) ∧ Below W.heap.size W w') := speaks11
  rcases hcs with ⟨hne, rfl⟩ | ⟨hz, hl, rfl, psA, hF⟩
  · have hnb : (errE len k p bl != 0) = true := by simpa using hne
    go_wp2_with fail
    refine (from_any w1 ((HH.out.below HB.out).below HB1.out)).mono ?_
    rintro e w2 ⟨hb, hcs2⟩
    have HB2 : Hid (Below w1.heap.size w1 w2) := hb
    have i0 : w2.cell? ⟨w.heap.size, 0, none⟩ = some (.slice vA len vc) := (hb.cell (p := ⟨w.heap.size, 0, none⟩) (by show w.heap.size < _; omega)).trans j0
    have i1 : w2.cell? ⟨w.heap.size, 1, none⟩ = some (.int .u64 a) := (hb.cell (p := ⟨w.heap.size, 1, none⟩) (by show w.heap.size < _; omega)).trans j1
    have i2 : w2.cell? ⟨w.heap.size, 2, none⟩ = some (.int .i64 4) := (hb.cell (p := ⟨w.heap.size, 2, none⟩) (by show w.heap.size < _; omega)).trans j2
    have i3 : w2.cell? ⟨w.heap.size, 3, none⟩ = some (.int .u64 u) := (hb.cell (p := ⟨w.heap.size, 3, none⟩) (by show w.heap.size < _; omega)).trans j3
    have hz2 := hb.size
    have HW : Hid (Below w.heap.size w w2) := (HB.out.trans (HB1.out.mono (by omega))).trans (HB2.out.mono (by omega))
    clear hb j0 j1 j2 j3
    rcases hcs2 with ⟨hne2, rfl⟩ | ⟨hz, hl, rfl, psB, hF2⟩
    · have HWW := HW
      go_wp2_with fail
      refine (HSp.out _).mono ?_
      rintro e w9 ⟨rfl, hb⟩
      have HB9 : Hid (Below w.heap.size w w9) := HWW.out.trans (hb.mono HWW.out.size)
      clear hb
      go_wp2
      go_ret
      exact ⟨rfl, HB9.out⟩
    · exact absurd hz hne
  · have HFA : Hid (Fr w1 (w0.heap.size + 1) w0.heap.size len k p Y w0.heap.size psA) := hF
    clear hF
    go_wp2_with fail
    refine (from_any w1 ((HH.out.below HB.out).below HB1.out)).mono ?_
    rintro e w2 ⟨hb, hcs2⟩
    have HB2 : Hid (Below w1.heap.size w1 w2) := hb
    have i0 : w2.cell? ⟨w.heap.size, 0, none⟩ = some (.slice vA len vc) := (hb.cell (p := ⟨w.heap.size, 0, none⟩) (by show w.heap.size < _; omega)).trans j0
    have i1 : w2.cell? ⟨w.heap.size, 1, none⟩ = some (.int .u64 a) := (hb.cell (p := ⟨w.heap.size, 1, none⟩) (by show w.heap.size < _; omega)).trans j1
    have i2 : w2.cell? ⟨w.heap.size, 2, none⟩ = some (.int .i64 4) := (hb.cell (p := ⟨w.heap.size, 2, none⟩) (by show w.heap.size < _; omega)).trans j2
    have i3 : w2.cell? ⟨w.heap.size, 3, none⟩ = some (.int .u64 u) := (hb.cell (p := ⟨w.heap.size, 3, none⟩) (by show w.heap.size < _; omega)).trans j3
    have hz2 := hb.size
    have HW : Hid (Below w.heap.size w w2) := (HB.out.trans (HB1.out.mono (by omega))).trans (HB2.out.mono (by omega))
    clear hb j0 j1 j2 j3
    rcases hcs2 with ⟨hne2, rfl⟩ | ⟨hz2', hl2, rfl, psB, hF2⟩
    · exact absurd hz hne2
    have HFB : Hid (Fr w2 (w1.heap.size + 1) w1.heap.size len k p Y w1.heap.size psB) := hF2
    clear hF2
    by_cases ha : 140737488355328 ≤ a
    · have hab : decide (140737488355328 ≤ a) = true := by simpa using ha
      have HWW := HW
      go_wp2_with fail
      refine (HSp.out _).mono ?_
      rintro e w9 ⟨rfl, hb⟩
      have HB9 : Hid (Below w.heap.size w w9) := HWW.out.trans (hb.mono HWW.out.size)
      clear hb
      go_wp2
      go_ret
      exact ⟨rfl, HB9.out⟩
    have hab : decide (140737488355328 ≤ a) = false := by simpa using ha
    by_cases ha' : 140737488355328 ≤ a'
    · have hab' : decide (140737488355328 ≤ a') = true := by simpa using ha'
      have HWW := HW
      go_wp2_with fail
      refine (HSp.out _).mono ?_
      rintro e w9 ⟨rfl, hb⟩
      have HB9 : Hid (Below w.heap.size w w9) := HWW.out.trans (hb.mono HWW.out.size)
      clear hb
      go_wp2
      go_ret
      exact ⟨rfl, HB9.out⟩
    have hab' : decide (140737488355328 ≤ a') = false := by simpa using ha'
    by_cases hov : a' < a + 4 ∧ a < a' + 4
    · obtain ⟨o1, o2⟩ := hov
      have HWW := HW
      go_wp2_with fail
      refine (HSp.out _).mono ?_
      rintro e w9 ⟨rfl, hb⟩
      have HB9 : Hid (Below w.heap.size w w9) := HWW.out.trans (hb.mono HWW.out.size)
      clear hb
      go_wp2
      go_ret
      exact ⟨rfl, HB9.out⟩
    have a1 : a < 140737488355328 := by omega
    have a'1 : a' < 140737488355328 := by omega
    have HY : Hid (∀ i j, 0 ≤ Y i j ∧ Y i j < 256) := HH.out.by_
    have GA : Hid (∀ x ∈ psA, w0.heap.size ≤ x.g) := fun x hx => by obtain ⟨t, ht, rfl⟩ := List.getElem_of_mem hx; exact (HFA.out.at_ t _ (List.getElem?_eq_getElem ht)).2.2.2
    have GB1 : Hid (∀ x ∈ psB, w1.heap.size ≤ x.g) := fun x hx => by obtain ⟨t, ht, rfl⟩ := List.getElem_of_mem hx; exact (HFB.out.at_ t _ (List.getElem?_eq_getElem ht)).2.2.2
    have GB : Hid (∀ x ∈ psB, w0.heap.size ≤ x.g) := fun x hx => Nat.le_trans hz1 (GB1.out x hx)
    have GL : Hid (∀ x ∈ psA, x.g < w1.heap.size) := HFA.out.lt
    have hA1 : w0.heap.size + 1 < w1.heap.size := lt_of_cell HFA.out.cell
    have neA : Hid (∀ x ∈ psA, w0.heap.size + 1 ≠ x.g ∧ w0.heap.size ≠ x.g) := fun x hx => by have := (HFA.out.mo HY.out).ne hx; omega
    have neB : Hid (∀ x ∈ psB, w1.heap.size + 1 ≠ x.g ∧ w1.heap.size ≠ x.g) := fun x hx => by have := (HFB.out.mo HY.out).ne hx; omega
    have DA : Hid ((∀ x ∈ psA, w1.heap.size + 1 ≠ x.g) ∧ (∀ x ∈ psA, w1.heap.size ≠ x.g) ∧ ∀ y ∈ psB, ∀ x ∈ psA, y.g ≠ x.g) := ⟨fun x hx => by have := GL.out x hx; omega, fun x hx => by have := GL.out x hx; omega, fun y hy x hx => by have := GL.out x hx; have := GB1.out y hy; omega⟩
    have DB : Hid ((∀ x ∈ psB, w0.heap.size + 1 ≠ x.g) ∧ (∀ x ∈ psB, w0.heap.size ≠ x.g) ∧ ∀ y ∈ psA, ∀ x ∈ psB, y.g ≠ x.g) := ⟨fun x hx => by have := GB1.out x hx; omega, fun x hx => by have := GB1.out x hx; omega, fun y hy x hx => by have := GL.out y hy; have := GB1.out x hx; omega⟩
    have MA0 : Hid (Mo w2 (w0.heap.size + 1) w0.heap.size psA (btOf w1)) := (HFA.out.mo HY.out).below HB2.out
    have MB0 : Hid (Mo w2 (w1.heap.size + 1) w1.heap.size psB (btOf w2)) := HFB.out.mo HY.out
    have AL : Hid (Alike psA psB) := HFA.out.alike HFB.out
    have BY : Hid (∀ q, pg psA (bs q) ≠ none → byt psA (btOf w1) q = byt psB (btOf w2) q) := HFA.out.byts HFB.out HY.out
    have LN : Hid (psA.length = psB.length ∧ psA.length ≤ 65536) := ⟨by rw [HFA.out.len, HFB.out.len], by rw [HFA.out.len]; omega⟩
    have KA : Hid (∀ x ∈ psA, x.k % 4096 = 0) := fun x hx => by
      obtain ⟨t, ht, rfl⟩ := List.getElem_of_mem hx
      rw [(HFA.out.at_ t _ (List.getElem?_eq_getElem ht)).1]
      have hl' := HFA.out.len
      unfold errE at hz
      rw [if_neg (by omega)] at hz
      exact fromE_al len hz t (by omega)
    have ST : Hid (∀ (W : World) (b r : Nat) (ps : List Pgd) (bt : Nat → Nat → Int) (x y : Int), Mo W b r ps bt → 0 ≤ x → x < 140737488355328 → 0 ≤ y → y < 18446744073709551616 → Calls Try.prog 17 #[.pointer (some ⟨b, 0, none⟩), .int .u64 x, .int .i64 4, .int .u64 y] W fun e w' => e = .returned (.int .i64 (useE ps x 4 2)) ∧ But ps W.heap.size W w' ∧ Mo w' b r ps (stB ps bt x 4 y)) := fun W b r ps bt x y hM h1 h2 h3 h4 => store_any b r ps bt x y 4 W hM h1 (by unfold isN; omega) (by omega) h3 h4
    have UE : Hid (∀ x, useE psB x 4 2 = useE psA x 4 2) := fun x => (use_alike AL.out x 4 2).symm
    have apA := HFA.out.apart'
    have apB := HFB.out.apart'
    have HAP : Hid ((∀ x ∈ psA, ∀ y ∈ psA, x.g = y.g → x = y) ∧ (∀ x ∈ psB, ∀ y ∈ psB, x.g = y.g → x = y)) := ⟨apA, apB⟩
    clear apA apB HFA HFB HH
    generalize btOf w1 = btA at *
    generalize btOf w2 = btB at *
    have hov1 : (decide (a' < a + 4) && decide (a < a' + 4)) = false := by
      by_cases o1 : a' < a + 4
      · have : ¬ a < a' + 4 := fun o2 => hov ⟨o1, o2⟩
        simp [this]
      · simp [o1]
    have hzw : w0.heap.size ≤ w2.heap.size := by omega
    rcases (by by_cases o1 : a' < a + 4
               · exact .inr ⟨o1, fun o2 => hov ⟨o1, o2⟩⟩
               · exact .inl o1 : ¬ a' < a + 4 ∨ (a' < a + 4 ∧ ¬ a < a' + 4)) with o1 | ⟨o1, o2⟩
    all_goals
      go_wp2_with fail
      refine (ST.out w2 _ _ psA _ a u MA0.out a0 a1 u0 u1).mono ?_
      rintro e w3 ⟨rfl, hbut, hmo⟩
      have MA1 : Hid (Mo w3 _ _ psA _) := hmo
      have MB1 : Hid (Mo w3 _ _ psB _) := MB0.out.but hbut DA.out.1 DA.out.2.1 DA.out.2.2
      have hbb : Below w0.heap.size w2 w3 := hbut.below (by omega) GA.out
      have q11 : w3.cell? ⟨w.heap.size, 1, none⟩ = some (.int .u64 a) := (hbb.cell (p := ⟨w.heap.size, 1, none⟩) (by show w.heap.size < _; omega)).trans i1
      have q21 : w3.cell? ⟨w.heap.size, 2, none⟩ = some (.int .i64 4) := (hbb.cell (p := ⟨w.heap.size, 2, none⟩) (by show w.heap.size < _; omega)).trans i2
      have q31 : w3.cell? ⟨w.heap.size, 3, none⟩ = some (.int .u64 u) := (hbb.cell (p := ⟨w.heap.size, 3, none⟩) (by show w.heap.size < _; omega)).trans i3
      have zz1 : w0.heap.size ≤ w3.heap.size := Nat.le_trans (by omega) hbb.size
      have HW1 : Hid (Below w.heap.size w w3) := HW.out.trans (hbb.mono (by omega))
      clear hbut hmo hbb i1 i2 i3
      go_wp2_with fail
      refine (ST.out w3 _ _ psA _ a' u' MA1.out a'0 a'1 u'0 u'1).mono ?_
      rintro e w4 ⟨rfl, hbut, hmo⟩
      have MA2 : Hid (Mo w4 _ _ psA _) := hmo
      have MB2 : Hid (Mo w4 _ _ psB _) := MB1.out.but hbut DA.out.1 DA.out.2.1 DA.out.2.2
      have hbb : Below w0.heap.size w3 w4 := hbut.below (by omega) GA.out
      have q12 : w4.cell? ⟨w.heap.size, 1, none⟩ = some (.int .u64 a) := (hbb.cell (p := ⟨w.heap.size, 1, none⟩) (by show w.heap.size < _; omega)).trans q11
      have q22 : w4.cell? ⟨w.heap.size, 2, none⟩ = some (.int .i64 4) := (hbb.cell (p := ⟨w.heap.size, 2, none⟩) (by show w.heap.size < _; omega)).trans q21
      have q32 : w4.cell? ⟨w.heap.size, 3, none⟩ = some (.int .u64 u) := (hbb.cell (p := ⟨w.heap.size, 3, none⟩) (by show w.heap.size < _; omega)).trans q31
      have zz2 : w0.heap.size ≤ w4.heap.size := Nat.le_trans (by omega) hbb.size
      have HW2 : Hid (Below w.heap.size w w4) := HW1.out.trans (hbb.mono (by omega))
      clear hbut hmo hbb q11 q21 q31
      go_wp2_with fail
      refine (ST.out w4 _ _ psB _ a' u' MB2.out a'0 a'1 u'0 u'1).mono ?_
      rintro e w5 ⟨rfl, hbut, hmo⟩
      have MB3 : Hid (Mo w5 _ _ psB _) := hmo
      have MA3 : Hid (Mo w5 _ _ psA _) := MA2.out.but hbut DB.out.1 DB.out.2.1 DB.out.2.2
      have hbb : Below w0.heap.size w4 w5 := hbut.below (by omega) GB.out
      have q13 : w5.cell? ⟨w.heap.size, 1, none⟩ = some (.int .u64 a) := (hbb.cell (p := ⟨w.heap.size, 1, none⟩) (by show w.heap.size < _; omega)).trans q12
      have q23 : w5.cell? ⟨w.heap.size, 2, none⟩ = some (.int .i64 4) := (hbb.cell (p := ⟨w.heap.size, 2, none⟩) (by show w.heap.size < _; omega)).trans q22
      have q33 : w5.cell? ⟨w.heap.size, 3, none⟩ = some (.int .u64 u) := (hbb.cell (p := ⟨w.heap.size, 3, none⟩) (by show w.heap.size < _; omega)).trans q32
      have zz3 : w0.heap.size ≤ w5.heap.size := Nat.le_trans (by omega) hbb.size
      have HW3 : Hid (Below w.heap.size w w5) := HW2.out.trans (hbb.mono (by omega))
      clear hbut hmo hbb q12 q22 q32
      go_wp2_with fail
      refine (ST.out w5 _ _ psB _ a u MB3.out a0 a1 u0 u1).mono ?_
      rintro e w6 ⟨rfl, hbut, hmo⟩
      have MB4 : Hid (Mo w6 _ _ psB _) := hmo
      have MA4 : Hid (Mo w6 _ _ psA _) := MA3.out.but hbut DB.out.1 DB.out.2.1 DB.out.2.2
      have hbb : Below w0.heap.size w5 w6 := hbut.below (by omega) GB.out
      have q14 : w6.cell? ⟨w.heap.size, 1, none⟩ = some (.int .u64 a) := (hbb.cell (p := ⟨w.heap.size, 1, none⟩) (by show w.heap.size < _; omega)).trans q13
      have q24 : w6.cell? ⟨w.heap.size, 2, none⟩ = some (.int .i64 4) := (hbb.cell (p := ⟨w.heap.size, 2, none⟩) (by show w.heap.size < _; omega)).trans q23
      have q34 : w6.cell? ⟨w.heap.size, 3, none⟩ = some (.int .u64 u) := (hbb.cell (p := ⟨w.heap.size, 3, none⟩) (by show w.heap.size < _; omega)).trans q33
      have zz4 : w0.heap.size ≤ w6.heap.size := Nat.le_trans (by omega) hbb.size
      have HW4 : Hid (Below w.heap.size w w6) := HW3.out.trans (hbb.mono (by omega))
      clear hbut hmo hbb q13 q23 q33
      rw [UE.out a, UE.out a']
      have SM : Hid (Calls Try.prog 19 #[.pointer (some ⟨w0.heap.size + 1, 0, none⟩), .pointer (some ⟨w1.heap.size + 1, 0, none⟩)] w6 fun e w' => e = .returned (.bool true) ∧ Below w6.heap.size w6 w') := same_true _ _ _ _ psA psB _ _ w6 MA4.out.mm MB4.out.mm LN.out.1 LN.out.2 (same_places AL.out KA.out (two_same HAP.out.1 HAP.out.2 AL.out BY.out a u a' u' 4 a0 a'0 (by omega) u0 u'0 hov))
      go_wp2_with fail
      refine SM.out.mono ?_
      rintro e w7 ⟨rfl, hb⟩
      have HWW : Hid (Below w.heap.size w w7) := HW4.out.trans (hb.mono HW4.out.size)
      clear hb
      go_wp2_with fail
      refine (HSp.out _).mono ?_
      rintro e w9 ⟨rfl, hb⟩
      have HB9 : Hid (Below w.heap.size w w9) := HWW.out.trans (hb.mono HWW.out.size)
      clear hb
      go_wp2
      go_ret
      exact ⟨rfl, HB9.out⟩
set_option maxRecDepth 20000 in
set_option maxHeartbeats 1000000 in
theorem law8_8 {v : Value} {len : Nat} {k p : Nat → Int} {ao : Nat → Option Addr} {bl bc : Nat → Nat} {Y : Nat → Nat → Int} (a u a' u' : Int) (a0 : 0 ≤ a) (u0 : 0 ≤ u) (u1 : u < 18446744073709551616) (a'0 : 0 ≤ a') (u'0 : 0 ≤ u') (u'1 : u' < 18446744073709551616) (w : World) (h : PgArg w v len k p ao bl bc Y) : Calls Try.prog 8 #[.agg #[v, .int .u64 a, .int .i64 8, .int .u64 u], .int .u64 a', .int .u64 u'] w fun e w' => e = .returned (.bool true) ∧ Below w.heap.size w w' := by
  obtain ⟨vA, vc, hv, -, -⟩ := h.shape
  have HH : Hid (PgArg w v len k p ao bl bc Y) := h
  clear h
  subst hv
  go_enter Try.func8, Try.ntmps8
  go_wp2_with fail
  obtain ⟨w0, hw0⟩ : ∃ w0, (w.alloc (.cells #[.slice vA len vc, .int .u64 a, .int .i64 8, .int .u64 u] 25)) = w0 := ⟨_, rfl⟩
  have hnew := World.alloc_heap_new w (.cells #[.slice vA len vc, .int .u64 a, .int .i64 8, .int .u64 u] 25)
  rw [hw0] at hnew
  have k0 : w0.cell? ⟨w.heap.size, 0, none⟩ = some (.slice vA len vc) := by simp [World.cell?, hnew]
  have k1 : w0.cell? ⟨w.heap.size, 1, none⟩ = some (.int .u64 a) := by simp [World.cell?, hnew]
  have k2 : w0.cell? ⟨w.heap.size, 2, none⟩ = some (.int .i64 8) := by simp [World.cell?, hnew]
  have k3 : w0.cell? ⟨w.heap.size, 3, none⟩ = some (.int .u64 u) := by simp [World.cell?, hnew]
  have hs : w.heap.size + 1 = w0.heap.size := by rw [← hw0]; simp
  have HB : Hid (Below w.heap.size w w0) := by have : Below w.heap.size w w0 := by { rw [← hw0]; exact (Below.refl _ w).alloc (Nat.le_refl _) _ }; exact this
  rw [hw0]
  clear hw0 hnew
  refine (from_any w0 (HH.out.below HB.out)).mono ?_
  rintro e w1 ⟨hb, hcs⟩
  have HB1 : Hid (Below w0.heap.size w0 w1) := hb
  have j0 : w1.cell? ⟨w.heap.size, 0, none⟩ = some (.slice vA len vc) := (hb.cell (p := ⟨w.heap.size, 0, none⟩) (by show w.heap.size < _; omega)).trans k0
  have j1 : w1.cell? ⟨w.heap.size, 1, none⟩ = some (.int .u64 a) := (hb.cell (p := ⟨w.heap.size, 1, none⟩) (by show w.heap.size < _; omega)).trans k1
  have j2 : w1.cell? ⟨w.heap.size, 2, none⟩ = some (.int .i64 8) := (hb.cell (p := ⟨w.heap.size, 2, none⟩) (by show w.heap.size < _; omega)).trans k2
  have j3 : w1.cell? ⟨w.heap.size, 3, none⟩ = some (.int .u64 u) := (hb.cell (p := ⟨w.heap.size, 3, none⟩) (by show w.heap.size < _; omega)).trans k3
  have hz1 := hb.size
  clear hb k0 k1 k2 k3
  have HSp : Hid (∀ W, Calls Try.prog 10 #[] W fun e w' => e = .returned (.bool true) ∧ Below W.heap.size W w') := speaks11
  rcases hcs with ⟨hne, rfl⟩ | ⟨hz, hl, rfl, psA, hF⟩
  · have hnb : (errE len k p bl != 0) = true := by simpa using hne
    go_wp2_with fail
    refine (from_any w1 ((HH.out.below HB.out).below HB1.out)).mono ?_
    rintro e w2 ⟨hb, hcs2⟩
    have HB2 : Hid (Below w1.heap.size w1 w2) := hb
    have i0 : w2.cell? ⟨w.heap.size, 0, none⟩ = some (.slice vA len vc) := (hb.cell (p := ⟨w.heap.size, 0, none⟩) (by show w.heap.size < _; omega)).trans j0
    have i1 : w2.cell? ⟨w.heap.size, 1, none⟩ = some (.int .u64 a) := (hb.cell (p := ⟨w.heap.size, 1, none⟩) (by show w.heap.size < _; omega)).trans j1
    have i2 : w2.cell? ⟨w.heap.size, 2, none⟩ = some (.int .i64 8) := (hb.cell (p := ⟨w.heap.size, 2, none⟩) (by show w.heap.size < _; omega)).trans j2
    have i3 : w2.cell? ⟨w.heap.size, 3, none⟩ = some (.int .u64 u) := (hb.cell (p := ⟨w.heap.size, 3, none⟩) (by show w.heap.size < _; omega)).trans j3
    have hz2 := hb.size
    have HW : Hid (Below w.heap.size w w2) := (HB.out.trans (HB1.out.mono (by omega))).trans (HB2.out.mono (by omega))
    clear hb j0 j1 j2 j3
    rcases hcs2 with ⟨hne2, rfl⟩ | ⟨hz, hl, rfl, psB, hF2⟩
    · have HWW := HW
      go_wp2_with fail
      refine (HSp.out _).mono ?_
      rintro e w9 ⟨rfl, hb⟩
      have HB9 : Hid (Below w.heap.size w w9) := HWW.out.trans (hb.mono HWW.out.size)
      clear hb
      go_wp2
      go_ret
      exact ⟨rfl, HB9.out⟩
    · exact absurd hz hne
  · have HFA : Hid (Fr w1 (w0.heap.size + 1) w0.heap.size len k p Y w0.heap.size psA) := hF
    clear hF
    go_wp2_with fail
    refine (from_any w1 ((HH.out.below HB.out).below HB1.out)).mono ?_
    rintro e w2 ⟨hb, hcs2⟩
    have HB2 : Hid (Below w1.heap.size w1 w2) := hb
    have i0 : w2.cell? ⟨w.heap.size, 0, none⟩ = some (.slice vA len vc) := (hb.cell (p := ⟨w.heap.size, 0, none⟩) (by show w.heap.size < _; omega)).trans j0
    have i1 : w2.cell? ⟨w.heap.size, 1, none⟩ = some (.int .u64 a) := (hb.cell (p := ⟨w.heap.size, 1, none⟩) (by show w.heap.size < _; omega)).trans j1
    have i2 : w2.cell? ⟨w.heap.size, 2, none⟩ = some (.int .i64 8) := (hb.cell (p := ⟨w.heap.size, 2, none⟩) (by show w.heap.size < _; omega)).trans j2
    have i3 : w2.cell? ⟨w.heap.size, 3, none⟩ = some (.int .u64 u) := (hb.cell (p := ⟨w.heap.size, 3, none⟩) (by show w.heap.size < _; omega)).trans j3
    have hz2 := hb.size
    have HW : Hid (Below w.heap.size w w2) := (HB.out.trans (HB1.out.mono (by omega))).trans (HB2.out.mono (by omega))
    clear hb j0 j1 j2 j3
    rcases hcs2 with ⟨hne2, rfl⟩ | ⟨hz2', hl2, rfl, psB, hF2⟩
    · exact absurd hz hne2
    have HFB : Hid (Fr w2 (w1.heap.size + 1) w1.heap.size len k p Y w1.heap.size psB) := hF2
    clear hF2
    by_cases ha : 140737488355328 ≤ a
    · have hab : decide (140737488355328 ≤ a) = true := by simpa using ha
      have HWW := HW
      go_wp2_with fail
      refine (HSp.out _).mono ?_
      rintro e w9 ⟨rfl, hb⟩
      have HB9 : Hid (Below w.heap.size w w9) := HWW.out.trans (hb.mono HWW.out.size)
      clear hb
      go_wp2
      go_ret
      exact ⟨rfl, HB9.out⟩
    have hab : decide (140737488355328 ≤ a) = false := by simpa using ha
    by_cases ha' : 140737488355328 ≤ a'
    · have hab' : decide (140737488355328 ≤ a') = true := by simpa using ha'
      have HWW := HW
      go_wp2_with fail
      refine (HSp.out _).mono ?_
      rintro e w9 ⟨rfl, hb⟩
      have HB9 : Hid (Below w.heap.size w w9) := HWW.out.trans (hb.mono HWW.out.size)
      clear hb
      go_wp2
      go_ret
      exact ⟨rfl, HB9.out⟩
    have hab' : decide (140737488355328 ≤ a') = false := by simpa using ha'
    by_cases hov : a' < a + 8 ∧ a < a' + 8
    · obtain ⟨o1, o2⟩ := hov
      have HWW := HW
      go_wp2_with fail
      refine (HSp.out _).mono ?_
      rintro e w9 ⟨rfl, hb⟩
      have HB9 : Hid (Below w.heap.size w w9) := HWW.out.trans (hb.mono HWW.out.size)
      clear hb
      go_wp2
      go_ret
      exact ⟨rfl, HB9.out⟩
    have a1 : a < 140737488355328 := by omega
    have a'1 : a' < 140737488355328 := by omega
    have HY : Hid (∀ i j, 0 ≤ Y i j ∧ Y i j < 256) := HH.out.by_
    have GA : Hid (∀ x ∈ psA, w0.heap.size ≤ x.g) := fun x hx => by obtain ⟨t, ht, rfl⟩ := List.getElem_of_mem hx; exact (HFA.out.at_ t _ (List.getElem?_eq_getElem ht)).2.2.2
    have GB1 : Hid (∀ x ∈ psB, w1.heap.size ≤ x.g) := fun x hx => by obtain ⟨t, ht, rfl⟩ := List.getElem_of_mem hx; exact (HFB.out.at_ t _ (List.getElem?_eq_getElem ht)).2.2.2
    have GB : Hid (∀ x ∈ psB, w0.heap.size ≤ x.g) := fun x hx => Nat.le_trans hz1 (GB1.out x hx)
    have GL : Hid (∀ x ∈ psA, x.g < w1.heap.size) := HFA.out.lt
    have hA1 : w0.heap.size + 1 < w1.heap.size := lt_of_cell HFA.out.cell
    have neA : Hid (∀ x ∈ psA, w0.heap.size + 1 ≠ x.g ∧ w0.heap.size ≠ x.g) := fun x hx => by have := (HFA.out.mo HY.out).ne hx; omega
    have neB : Hid (∀ x ∈ psB, w1.heap.size + 1 ≠ x.g ∧ w1.heap.size ≠ x.g) := fun x hx => by have := (HFB.out.mo HY.out).ne hx; omega
    have DA : Hid ((∀ x ∈ psA, w1.heap.size + 1 ≠ x.g) ∧ (∀ x ∈ psA, w1.heap.size ≠ x.g) ∧ ∀ y ∈ psB, ∀ x ∈ psA, y.g ≠ x.g) := ⟨fun x hx => by have := GL.out x hx; omega, fun x hx => by have := GL.out x hx; omega, fun y hy x hx => by have := GL.out x hx; have := GB1.out y hy; omega⟩
    have DB : Hid ((∀ x ∈ psB, w0.heap.size + 1 ≠ x.g) ∧ (∀ x ∈ psB, w0.heap.size ≠ x.g) ∧ ∀ y ∈ psA, ∀ x ∈ psB, y.g ≠ x.g) := ⟨fun x hx => by have := GB1.out x hx; omega, fun x hx => by have := GB1.out x hx; omega, fun y hy x hx => by have := GL.out y hy; have := GB1.out x hx; omega⟩
    have MA0 : Hid (Mo w2 (w0.heap.size + 1) w0.heap.size psA (btOf w1)) := (HFA.out.mo HY.out).below HB2.out
    have MB0 : Hid (Mo w2 (w1.heap.size + 1) w1.heap.size psB (btOf w2)) := HFB.out.mo HY.out
    have AL : Hid (Alike psA psB) := HFA.out.alike HFB.out
    have BY : Hid (∀ q, pg psA (bs q) ≠ none → byt psA (btOf w1) q = byt psB (btOf w2) q) := HFA.out.byts HFB.out HY.out
    have LN : Hid (psA.length = psB.length ∧ psA.length ≤ 65536) := ⟨by rw [HFA.out.len, HFB.out.len], by rw [HFA.out.len]; omega⟩
    have KA : Hid (∀ x ∈ psA, x.k % 4096 = 0) := fun x hx => by
      obtain ⟨t, ht, rfl⟩ := List.getElem_of_mem hx
      rw [(HFA.out.at_ t _ (List.getElem?_eq_getElem ht)).1]
      have hl' := HFA.out.len
      unfold errE at hz
      rw [if_neg (by omega)] at hz
      exact fromE_al len hz t (by omega)
    have ST : Hid (∀ (W : World) (b r : Nat) (ps : List Pgd) (bt : Nat → Nat → Int) (x y : Int), Mo W b r ps bt → 0 ≤ x → x < 140737488355328 → 0 ≤ y → y < 18446744073709551616 → Calls Try.prog 17 #[.pointer (some ⟨b, 0, none⟩), .int .u64 x, .int .i64 8, .int .u64 y] W fun e w' => e = .returned (.int .i64 (useE ps x 8 2)) ∧ But ps W.heap.size W w' ∧ Mo w' b r ps (stB ps bt x 8 y)) := fun W b r ps bt x y hM h1 h2 h3 h4 => store_any b r ps bt x y 8 W hM h1 (by unfold isN; omega) (by omega) h3 h4
    have UE : Hid (∀ x, useE psB x 8 2 = useE psA x 8 2) := fun x => (use_alike AL.out x 8 2).symm
    have apA := HFA.out.apart'
    have apB := HFB.out.apart'
    have HAP : Hid ((∀ x ∈ psA, ∀ y ∈ psA, x.g = y.g → x = y) ∧ (∀ x ∈ psB, ∀ y ∈ psB, x.g = y.g → x = y)) := ⟨apA, apB⟩
    clear apA apB HFA HFB HH
    generalize btOf w1 = btA at *
    generalize btOf w2 = btB at *
    have hov1 : (decide (a' < a + 8) && decide (a < a' + 8)) = false := by
      by_cases o1 : a' < a + 8
      · have : ¬ a < a' + 8 := fun o2 => hov ⟨o1, o2⟩
        simp [this]
      · simp [o1]
    have hzw : w0.heap.size ≤ w2.heap.size := by omega
    rcases (by by_cases o1 : a' < a + 8
               · exact .inr ⟨o1, fun o2 => hov ⟨o1, o2⟩⟩
               · exact .inl o1 : ¬ a' < a + 8 ∨ (a' < a + 8 ∧ ¬ a < a' + 8)) with o1 | ⟨o1, o2⟩
    all_goals
      go_wp2_with fail
      refine (ST.out w2 _ _ psA _ a u MA0.out a0 a1 u0 u1).mono ?_
      rintro e w3 ⟨rfl, hbut, hmo⟩
      have MA1 : Hid (Mo w3 _ _ psA _) := hmo
      have MB1 : Hid (Mo w3 _ _ psB _) := MB0.out.but hbut DA.out.1 DA.out.2.1 DA.out.2.2
      have hbb : Below w0.heap.size w2 w3 := hbut.below (by omega) GA.out
      have q11 : w3.cell? ⟨w.heap.size, 1, none⟩ = some (.int .u64 a) := (hbb.cell (p := ⟨w.heap.size, 1, none⟩) (by show w.heap.size < _; omega)).trans i1
      have q21 : w3.cell? ⟨w.heap.size, 2, none⟩ = some (.int .i64 8) := (hbb.cell (p := ⟨w.heap.size, 2, none⟩) (by show w.heap.size < _; omega)).trans i2
      have q31 : w3.cell? ⟨w.heap.size, 3, none⟩ = some (.int .u64 u) := (hbb.cell (p := ⟨w.heap.size, 3, none⟩) (by show w.heap.size < _; omega)).trans i3
      have zz1 : w0.heap.size ≤ w3.heap.size := Nat.le_trans (by omega) hbb.size
      have HW1 : Hid (Below w.heap.size w w3) := HW.out.trans (hbb.mono (by omega))
      clear hbut hmo hbb i1 i2 i3
      go_wp2_with fail
      refine (ST.out w3 _ _ psA _ a' u' MA1.out a'0 a'1 u'0 u'1).mono ?_
      rintro e w4 ⟨rfl, hbut, hmo⟩
      have MA2 : Hid (Mo w4 _ _ psA _) := hmo
      have MB2 : Hid (Mo w4 _ _ psB _) := MB1.out.but hbut DA.out.1 DA.out.2.1 DA.out.2.2
      have hbb : Below w0.heap.size w3 w4 := hbut.below (by omega) GA.out
      have q12 : w4.cell? ⟨w.heap.size, 1, none⟩ = some (.int .u64 a) := (hbb.cell (p := ⟨w.heap.size, 1, none⟩) (by show w.heap.size < _; omega)).trans q11
      have q22 : w4.cell? ⟨w.heap.size, 2, none⟩ = some (.int .i64 8) := (hbb.cell (p := ⟨w.heap.size, 2, none⟩) (by show w.heap.size < _; omega)).trans q21
      have q32 : w4.cell? ⟨w.heap.size, 3, none⟩ = some (.int .u64 u) := (hbb.cell (p := ⟨w.heap.size, 3, none⟩) (by show w.heap.size < _; omega)).trans q31
      have zz2 : w0.heap.size ≤ w4.heap.size := Nat.le_trans (by omega) hbb.size
      have HW2 : Hid (Below w.heap.size w w4) := HW1.out.trans (hbb.mono (by omega))
      clear hbut hmo hbb q11 q21 q31
      go_wp2_with fail
      refine (ST.out w4 _ _ psB _ a' u' MB2.out a'0 a'1 u'0 u'1).mono ?_
      rintro e w5 ⟨rfl, hbut, hmo⟩
      have MB3 : Hid (Mo w5 _ _ psB _) := hmo
      have MA3 : Hid (Mo w5 _ _ psA _) := MA2.out.but hbut DB.out.1 DB.out.2.1 DB.out.2.2
      have hbb : Below w0.heap.size w4 w5 := hbut.below (by omega) GB.out
      have q13 : w5.cell? ⟨w.heap.size, 1, none⟩ = some (.int .u64 a) := (hbb.cell (p := ⟨w.heap.size, 1, none⟩) (by show w.heap.size < _; omega)).trans q12
      have q23 : w5.cell? ⟨w.heap.size, 2, none⟩ = some (.int .i64 8) := (hbb.cell (p := ⟨w.heap.size, 2, none⟩) (by show w.heap.size < _; omega)).trans q22
      have q33 : w5.cell? ⟨w.heap.size, 3, none⟩ = some (.int .u64 u) := (hbb.cell (p := ⟨w.heap.size, 3, none⟩) (by show w.heap.size < _; omega)).trans q32
      have zz3 : w0.heap.size ≤ w5.heap.size := Nat.le_trans (by omega) hbb.size
      have HW3 : Hid (Below w.heap.size w w5) := HW2.out.trans (hbb.mono (by omega))
      clear hbut hmo hbb q12 q22 q32
      go_wp2_with fail
      refine (ST.out w5 _ _ psB _ a u MB3.out a0 a1 u0 u1).mono ?_
      rintro e w6 ⟨rfl, hbut, hmo⟩
      have MB4 : Hid (Mo w6 _ _ psB _) := hmo
      have MA4 : Hid (Mo w6 _ _ psA _) := MA3.out.but hbut DB.out.1 DB.out.2.1 DB.out.2.2
      have hbb : Below w0.heap.size w5 w6 := hbut.below (by omega) GB.out
      have q14 : w6.cell? ⟨w.heap.size, 1, none⟩ = some (.int .u64 a) := (hbb.cell (p := ⟨w.heap.size, 1, none⟩) (by show w.heap.size < _; omega)).trans q13
      have q24 : w6.cell? ⟨w.heap.size, 2, none⟩ = some (.int .i64 8) := (hbb.cell (p := ⟨w.heap.size, 2, none⟩) (by show w.heap.size < _; omega)).trans q23
      have q34 : w6.cell? ⟨w.heap.size, 3, none⟩ = some (.int .u64 u) := (hbb.cell (p := ⟨w.heap.size, 3, none⟩) (by show w.heap.size < _; omega)).trans q33
      have zz4 : w0.heap.size ≤ w6.heap.size := Nat.le_trans (by omega) hbb.size
      have HW4 : Hid (Below w.heap.size w w6) := HW3.out.trans (hbb.mono (by omega))
      clear hbut hmo hbb q13 q23 q33
      rw [UE.out a, UE.out a']
      have SM : Hid (Calls Try.prog 19 #[.pointer (some ⟨w0.heap.size + 1, 0, none⟩), .pointer (some ⟨w1.heap.size + 1, 0, none⟩)] w6 fun e w' => e = .returned (.bool true) ∧ Below w6.heap.size w6 w') := same_true _ _ _ _ psA psB _ _ w6 MA4.out.mm MB4.out.mm LN.out.1 LN.out.2 (same_places AL.out KA.out (two_same HAP.out.1 HAP.out.2 AL.out BY.out a u a' u' 8 a0 a'0 (by omega) u0 u'0 hov))
      go_wp2_with fail
      refine SM.out.mono ?_
      rintro e w7 ⟨rfl, hb⟩
      have HWW : Hid (Below w.heap.size w w7) := HW4.out.trans (hb.mono HW4.out.size)
      clear hb
      go_wp2_with fail
      refine (HSp.out _).mono ?_
      rintro e w9 ⟨rfl, hb⟩
      have HB9 : Hid (Below w.heap.size w w9) := HWW.out.trans (hb.mono HWW.out.size)
      clear hb
      go_wp2
      go_ret
      exact ⟨rfl, HB9.out⟩
theorem law8 {v : Value} {len : Nat} {k p : Nat → Int} {ao : Nat → Option Addr} {bl bc : Nat → Nat} {Y : Nat → Nat → Int} (a n u a' u' : Int) (a0 : 0 ≤ a) (u0 : 0 ≤ u) (u1 : u < 18446744073709551616) (a'0 : 0 ≤ a') (u'0 : 0 ≤ u') (u'1 : u' < 18446744073709551616) (w : World) (h : PgArg w v len k p ao bl bc Y) : Calls Try.prog 8 #[.agg #[v, .int .u64 a, .int .i64 n, .int .u64 u], .int .u64 a', .int .u64 u'] w fun e w' => e = .returned (.bool true) ∧ Below w.heap.size w w' := by
  by_cases hN : n = 1 ∨ n = 2 ∨ n = 4 ∨ n = 8
  · rcases hN with rfl | rfl | rfl | rfl
    · exact law8_1 a u a' u' a0 u0 u1 a'0 u'0 u'1 w h
    · exact law8_2 a u a' u' a0 u0 u1 a'0 u'0 u'1 w h
    · exact law8_4 a u a' u' a0 u0 u1 a'0 u'0 u'1 w h
    · exact law8_8 a u a' u' a0 u0 u1 a'0 u'0 u'1 w h
  · exact law8_odd a n u a' u' w h hN
end Go.Proofs.Ytndbkkldfinggab

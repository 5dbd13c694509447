/- Nodes in memory, of whatever names. Two nodes the same. Two lists of nodes the same. -/
import Derived.Test.YtkkmeogehapjoaaGreatDoorTA
namespace Go.Proofs.YtkkmeogehapjoaaGreatDoor
section
open Go.RowKit Go.Shelf
/-- Nodes in memory, of whatever names. -/
def NdS (w : World) (ao : Option Addr) (c : Nat) (l : List Nd) : Prop := l.length ≤ c ∧ c ≤ 9223372036854775807 ∧ (∀ x ∈ l, IsA w x.ka x.kc x.ks) ∧ (0 < l.length → ∃ g o, ao = some ⟨g, o, none⟩ ∧ ∀ i x, l[i]? = some x → ∀ j y, (ndc x)[j]? = some y → w.cell? ⟨g, o + i * 6 + j, none⟩ = some y)
theorem NdA.s {W : World} {ao : Option Addr} {c : Nat} {l : List Nd} (h : NdA W ao c l) : NdS W ao c l := ⟨h.1, h.2.1, fun x hx => (h.2.2.1 x hx).ks, h.2.2.2⟩
theorem NdS.below {W W' : World} {ao : Option Addr} {c : Nat} {l : List Nd} (h : NdS W ao c l) (hb : Below W.heap.size W W') : NdS W' ao c l := by
  obtain ⟨h1, h2, h3, h4⟩ := h
  refine ⟨h1, h2, fun x hx => (h3 x hx).below hb, fun hl => ?_⟩
  obtain ⟨g, o, e1, e2⟩ := h4 hl
  exact ⟨g, o, e1, fun i x hi j y hy => by
    have t := e2 i x hi j y hy
    rw [(bcell hb).1 g _ (World.block_lt_of_cell? _ _ t)]
    exact t⟩
end
section
open Go.RowKit Go.Shelf
theorem eq33 (xs ys : List Int) (a1 a2 : Option Addr) (c1 c2 : Nat) (w : World) (h1 : IsA w a1 c1 xs) (h2 : IsA w a2 c2 ys) : Calls Tryz.prog 33 #[.slice a1 xs.length c1, .slice a2 ys.length c2] w fun e w' => e = .returned (.bool (xs == ys)) ∧ ∃ q, w' = w.drewN q := by
  by_cases hn : xs.length = ys.length
  · by_cases h0 : xs.length = 0
    · have e1 : xs = [] := List.eq_nil_of_length_eq_zero h0
      have e2 : ys = [] := List.eq_nil_of_length_eq_zero (by omega)
      subst e1 e2
      exact (Tryz.slices_Equal_int_empty a1 a2 c1 0 c2 w (by decide)).mono fun e w' ⟨p, q⟩ => ⟨p, 0, q⟩
    · obtain ⟨g1, o1, rfl, k1⟩ := h1.2.2 (by omega)
      obtain ⟨g2, o2, rfl, k2⟩ := h2.2.2 (by omega)
      have t := Tryz.slices_Equal_int g1 o1 xs.length c1 g2 o2 ys.length c2 xs ys w (Nat.le_refl _) (Nat.le_refl _) (by have := h1.1; have := h1.2.1; omega) (by have := h2.1; have := h2.2.1; omega) (fun j hj => k1 j _ (by simp [List.getD, hj])) (fun j hj => k2 j _ (by simp [List.getD, hj]))
      rw [List.take_length, List.take_length] at t
      exact t
  · have e : (xs == ys) = false := by
      rw [beq_eq_false_iff_ne]
      intro e
      exact hn (by rw [e])
    rw [e]
    exact (Tryz.slices_Equal_int_lens a1 a2 xs.length c1 ys.length c2 w hn).mono fun e w' ⟨p, q⟩ => ⟨p, 0, q⟩
/-- A node as a value. -/
def ndw (x : Nd) : Value := .agg #[.int .i64 x.k, .string x.nm, .int .i64 x.v, .slice x.ka x.ks.length x.kc, .int .i64 x.fr, .int .i64 x.en]
def ndEq (x y : Nd) : Bool := (x.k == y.k) && ((x.nm.data.toList == y.nm.data.toList) && ((x.v == y.v) && (x.ks == y.ks)))
set_option maxRecDepth 100000 in
set_option maxHeartbeats 4000000 in
theorem same32 (x y : Nd) (w : World) (hx : IsA w x.ka x.kc x.ks) (hy : IsA w y.ka y.kc y.ks) : Calls Tryz.prog 32 #[ndw x, ndw y] w fun e w' => e = .returned (.bool (ndEq x y)) ∧ Below w.heap.size w w' := by
  have H33 : Hid (∀ W, Below w.heap.size w W → Calls Tryz.prog 33 #[.slice x.ka x.ks.length x.kc, .slice y.ka y.ks.length y.kc] W fun e w' => e = .returned (.bool (x.ks == y.ks)) ∧ Below w.heap.size w w') := fun W hW => (eq33 x.ks y.ks x.ka y.ka x.kc y.kc W (hx.below hW) (hy.below hW)).mono fun e w' ⟨p, q, hq⟩ => ⟨p, by rw [hq]; exact hW.trans ((drew_below W q).mono hW.size)⟩
  have hx1 := hx.1
  have hx2 := hx.2.1
  have hy1 := hy.1
  have hy2 := hy.2.1
  have hxl := ByteArray.toList_eq x.nm
  have hyl := ByteArray.toList_eq y.nm
  have HB : Hid (∀ o o', Below w.heap.size w ((w.alloc o).alloc o')) := fun o o' => ((Below.refl _ w).alloc (Nat.le_refl _) o).alloc (by simp) o'
  unfold ndEq ndw
  clear hx hy
  obtain ⟨xk, xn, xv, xa, xc, xs, xf, xe⟩ := x
  obtain ⟨yk, yn, yv, ya, yc, ys, yf, ye⟩ := y
  simp only at *
  generalize (xs == ys) = bk at *
  generalize xs.length = xl at *
  generalize ys.length = yl at *
  by_cases h1 : xk = yk
  · subst h1
    have e1 : (xk == xk) = true := by simp
    by_cases h2 : xn.data.toList = yn.data.toList
    · have e2 : (xn.data.toList == yn.data.toList) = true := by simpa using h2
      by_cases h3 : xv = yv
      · subst h3
        have e3 : (xv == xv) = true := by simp
        rw [e1, e2, e3]
        go_enter Tryz.func32, Tryz.ntmps32
        go_wp2_with fail
        refine (H33.out _ (HB.out _ _)).mono ?_
        rintro e w1 ⟨rfl, hb⟩
        have HB1 : Hid (Below w.heap.size w w1) := hb
        clear hb
        go_wp2
        go_ret
        exact ⟨ret_bool (by simp), HB1.out⟩
      · have e3 : (xv == yv) = false := by simpa using h3
        rw [e1, e2, e3]
        go_enter Tryz.func32, Tryz.ntmps32
        go_wp2
        go_ret
        exact ⟨rfl, HB.out _ _⟩
    · have e2 : (xn.data.toList == yn.data.toList) = false := by simpa using h2
      rw [e1, e2]
      go_enter Tryz.func32, Tryz.ntmps32
      go_wp2
      go_ret
      exact ⟨rfl, HB.out _ _⟩
  · have e1 : (xk == yk) = false := by simpa using h1
    rw [e1]
    go_enter Tryz.func32, Tryz.ntmps32
    go_wp2
    go_ret
    exact ⟨rfl, HB.out _ _⟩
end
section
open Go.RowKit Go.Shelf
def nsEq : List Nd → List Nd → Bool
  | [], [] => true
  | x :: a, y :: b => ndEq x y && nsEq a b
  | _, _ => false
theorem nsEq_len : ∀ {a b : List Nd}, nsEq a b = true → a.length = b.length
  | [], [], _ => rfl
  | _ :: a, _ :: b, h => by
    simp only [nsEq, Bool.and_eq_true] at h
    simp [nsEq_len h.2]
  | [], _ :: _, h => by simp [nsEq] at h
  | _ :: _, [], h => by simp [nsEq] at h
theorem nsEq_at : ∀ {a b : List Nd} (j : Nat) (x y : Nd), nsEq a b = true → a[j]? = some x → b[j]? = some y → ndEq x y = true
  | _ :: _, _ :: _, 0, x, y, h, hx, hy => by
    simp at hx hy
    subst hx hy
    simp only [nsEq, Bool.and_eq_true] at h
    exact h.1
  | _ :: a, _ :: b, j + 1, x, y, h, hx, hy => by
    simp only [nsEq, Bool.and_eq_true] at h
    exact nsEq_at (a := a) (b := b) j x y h.2 (by simpa using hx) (by simpa using hy)
  | [], _, _, _, _, _, hx, _ => by simp at hx
  | _ :: _, [], _, _, _, _, _, hy => by simp at hy
theorem nsEq_next : ∀ {a b : List Nd} (j : Nat) (x y : Nd), nsEq (a.take j) (b.take j) = true → a[j]? = some x → b[j]? = some y → nsEq (a.take (j + 1)) (b.take (j + 1)) = ndEq x y
  | _ :: _, _ :: _, 0, x, y, h, hx, hy => by
    simp at hx hy
    subst hx hy
    simp [nsEq]
  | u :: a, v :: b, j + 1, x, y, h, hx, hy => by
    simp only [List.take_succ_cons, nsEq, Bool.and_eq_true] at h
    rw [List.take_succ_cons, List.take_succ_cons]
    show (ndEq u v && nsEq (a.take (j + 1)) (b.take (j + 1))) = _
    rw [h.1, Bool.true_and]
    exact nsEq_next (a := a) (b := b) j x y h.2 (by simpa using hx) (by simpa using hy)
  | [], _, _, _, _, _, hx, _ => by simp at hx
  | _ :: _, [], _, _, _, _, _, hy => by simp at hy
theorem ndEq_refl (x : Nd) : ndEq x x = true := by simp [ndEq]
theorem nsEq_refl : ∀ a : List Nd, nsEq a a = true
  | [] => rfl
  | x :: a => by simp [nsEq, ndEq_refl x, nsEq_refl a]
set_option maxRecDepth 100000 in
set_option maxHeartbeats 4000000 in
theorem eqf31 (a b : List Nd) (ao bo : Option Addr) (ac bc : Nat) (w : World) (ha : NdS w ao ac a) (hb : NdS w bo bc b) : Calls Tryz.prog 31 #[.slice ao a.length ac, .slice bo b.length bc, .func (.func 32) #[] #[]] w fun e w' => e = .returned (.bool (nsEq a b)) ∧ Below w.heap.size w w' := by
  obtain ⟨k1, k2, k0, k3⟩ := ha
  obtain ⟨g1, g2, g0, g3⟩ := hb
  obtain ⟨m, hm⟩ : ∃ m, m = a.length := ⟨_, rfl⟩
  obtain ⟨p, hp⟩ : ∃ p, p = b.length := ⟨_, rfl⟩
  rw [← hm] at k1 k3 ⊢
  rw [← hp] at g1 g3 ⊢
  have HN : Hid (m = a.length ∧ p = b.length) := ⟨hm, hp⟩
  have c53 := cells53
  have K3 : Hid (0 < m → ∃ g o, ao = some ⟨g, o, none⟩ ∧ ∀ i x, a[i]? = some x → ∀ j y, (ndc x)[j]? = some y → w.cell? ⟨g, o + i * 6 + j, none⟩ = some y) := k3
  have G3 : Hid (0 < p → ∃ g o, bo = some ⟨g, o, none⟩ ∧ ∀ i x, b[i]? = some x → ∀ j y, (ndc x)[j]? = some y → w.cell? ⟨g, o + i * 6 + j, none⟩ = some y) := g3
  have H1 : Hid (∀ x y W, x ∈ a → y ∈ b → Below w.heap.size w W → Calls Tryz.prog 32 #[ndw x, ndw y] W fun e w' => e = .returned (.bool (ndEq x y)) ∧ Below W.heap.size W w') := fun x y W hx hy hW => same32 x y W ((k0 x hx).below hW) ((g0 y hy).below hW)
  generalize hR : nsEq a b = R at *
  have HR : Hid (nsEq a b = R) := hR
  clear hm hp k3 g3 k0 g0 hR
  by_cases hmp : m = p
  · subst hmp
    have HZ : Hid (Below w.heap.size w w) := Below.refl _ _
    go_enter Tryz.func31, Tryz.ntmps31
    go_wp2
    go_loopw [7, 8, 9, 17] (fun _ _ _ i wx => ∃ j : Nat, j ≤ m ∧ i = .int .i64 j ∧ Below w.heap.size w wx ∧ nsEq (a.take j) (b.take j) = true) (fun _ _ _ i _ => m - (intOf i).toNat)
    case atStart => exact ⟨0, Nat.zero_le _, rfl, HZ.out, rfl⟩
    case round =>
      obtain ⟨j, hj, rfl, hB, hT⟩ := hrel
      have HT : Hid (nsEq (a.take j) (b.take j) = true) := hT
      have HB : Hid (Below w.heap.size w wr) := hB
      clear hT
      by_cases hlt : j < m
      · obtain ⟨x, hx⟩ : ∃ x, a[j]? = some x := ⟨_, List.getElem?_eq_getElem (by have := HN.out.1; omega)⟩
        obtain ⟨y, hy⟩ : ∃ y, b[j]? = some y := ⟨_, List.getElem?_eq_getElem (by have := HN.out.2; omega)⟩
        obtain ⟨ga, oa, rfl, hac⟩ := K3.out (by omega)
        obtain ⟨gb, ob, rfl, hbc⟩ := G3.out (by omega)
        obtain ⟨y0, y1, y2, y3, y4, y5⟩ := nd_cells hac hx
        obtain ⟨z0, z1, z2, z3, z4, z5⟩ := nd_cells hbc hy
        have hga : ga < w.heap.size := World.block_lt_of_cell? _ _ y0
        have hgb : gb < w.heap.size := World.block_lt_of_cell? _ _ z0
        have a0 := ((bcell hB).1 ga _ hga).trans y0
        have a1 := ((bcell hB).1 ga _ hga).trans y1
        have a2 := ((bcell hB).1 ga _ hga).trans y2
        have a3 := ((bcell hB).1 ga _ hga).trans y3
        have a4 := ((bcell hB).1 ga _ hga).trans y4
        have a5 := ((bcell hB).1 ga _ hga).trans y5
        have b0 := ((bcell hB).1 gb _ hgb).trans z0
        have b1 := ((bcell hB).1 gb _ hgb).trans z1
        have b2 := ((bcell hB).1 gb _ hgb).trans z2
        have b3 := ((bcell hB).1 gb _ hgb).trans z3
        have b4 := ((bcell hB).1 gb _ hgb).trans z4
        have b5 := ((bcell hB).1 gb _ hgb).trans z5
        have hgw : gb < wr.heap.size := by have := hB.size; omega
        have hbA : ∀ o i, (wr.alloc o).cell? ⟨gb, i, none⟩ = wr.cell? ⟨gb, i, none⟩ := fun o i => (bcell ((Below.refl _ wr).alloc (Nat.le_refl _) o)).1 gb i hgw
        have HC : Hid (∀ W, Below w.heap.size w W → Calls Tryz.prog 32 #[.agg #[.int .i64 x.k, .string x.nm, .int .i64 x.v, .slice x.ka x.ks.length x.kc, .int .i64 x.fr, .int .i64 x.en], .agg #[.int .i64 y.k, .string y.nm, .int .i64 y.v, .slice y.ka y.ks.length y.kc, .int .i64 y.fr, .int .i64 y.en]] W fun e w' => e = .returned (.bool (ndEq x y)) ∧ Below W.heap.size W w') := fun W hW => H1.out x y W (List.mem_of_getElem? hx) (List.mem_of_getElem? hy) hW
        have HV : Hid (nsEq (a.take (j + 1)) (b.take (j + 1)) = ndEq x y ∧ (ndEq x y = false → R = false)) := by
          refine ⟨nsEq_next j x y HT.out hx hy, fun h => ?_⟩
          rw [← HR.out, ← Bool.not_eq_true]
          intro hh
          rw [nsEq_at j x y hh hx hy] at h
          cases h
        have HBa : Hid (∀ o o', Below w.heap.size w ((wr.alloc o).alloc o')) := fun o o' => (HB.out.alloc HB.out.size o).alloc (by have := HB.out.size; simp; omega) o'
        clear hac hbc hx hy y0 y1 y2 y3 y4 y5 z0 z1 z2 z3 z4 z5 hB
        generalize ndEq x y = r at *
        obtain ⟨xk, xn, xv, xa, xc, xs, xf, xe⟩ := x
        obtain ⟨yk, yn, yv, ya, yc, ys, yf, ye⟩ := y
        simp only at *
        generalize xs.length = xl at *
        generalize ys.length = yl at *
        cases r
        · obtain rfl := HV.out.2 rfl
          go_wp2_with fail
          refine (HC.out _ (HBa.out _ _)).mono ?_
          rintro e w2 ⟨rfl, hb2⟩
          have HB2 : Hid (Below w.heap.size w w2) := (HBa.out _ _).trans (hb2.mono (HBa.out _ _).size)
          clear hb2
          go_wp2
          go_ret
          exact ⟨rfl, HB2.out⟩
        · go_wp2_with fail
          refine (HC.out _ (HBa.out _ _)).mono ?_
          rintro e w2 ⟨rfl, hb2⟩
          have HB2 : Hid (Below w.heap.size w w2) := (HBa.out _ _).trans (hb2.mono (HBa.out _ _).size)
          clear hb2
          go_wp2
          exact ⟨⟨j + 1, by omega, by go_num, HB2.out, HV.out.1⟩, by simp [intOf]; omega⟩
      · obtain rfl : j = m := by omega
        have hta : a.take j = a := List.take_of_length_le (by have := HN.out.1; omega)
        have htb : b.take j = b := List.take_of_length_le (by have := HN.out.2; omega)
        have hR : R = true := by rw [← HR.out, ← HT.out, hta, htb]
        subst hR
        clear hta htb hB
        go_wp2
        go_ret
        exact ⟨rfl, HB.out⟩
  · have hR : R = false := by
      rw [← HR.out, ← Bool.not_eq_true]
      intro h
      have := nsEq_len h
      have := HN.out
      omega
    subst hR
    have hne : ((m : Int) != (p : Int)) = true := by simp; omega
    go_enter Tryz.func31, Tryz.ntmps31
    go_wp2
    go_ret
    exact ⟨rfl, Below.refl _ _⟩
end
end Go.Proofs.YtkkmeogehapjoaaGreatDoor

/- A number is printed. -/
import Derived.Test.YthkkoppnenfnfaaDoorC1
namespace Go.Proofs.YthkkoppnenfnfaaDoor
open Go.RowKit Go.Shelf
theorem info5 : (Tryd.prog.info? 5).map (fun i => (i.zero, i.size, i.bytes)) = some (some (.int .u8 0), 1, 1) := by kernel_rfl
theorem info5' : ∃ i, Tryd.prog.info? 5 = some i ∧ i.zero = some (.int .u8 0) ∧ i.size = 1 ∧ i.bytes = 1 := by
  have h := info5
  cases hi : Tryd.prog.info? 5 with
  | none => rw [hi] at h; cases h
  | some i => rw [hi] at h; simp at h; exact ⟨i, rfl, h⟩
set_option maxHeartbeats 1000000 in
theorem app70 (w : World) : Calls Tryd.prog 70 #[.slice none 0 0, .int .i64 7, .int .i64 10] w fun e w' => ∃ v', e = .returned v' ∧ w'.ownsRow w.heap.size 5 1 v' 1 [.int .u8 55] ∧ Below w.heap.size w w' := by
  have hC := Tryd.internal_strconv_AppendUint_10_small w.heap.size 0 7 (by omega) (.slice none 0 0) [] w (World.ownsRow_nil _ _ _ _) (Nat.le_refl _) (by omega)
  have hC' : Hid (Calls Tryd.prog 75 #[.slice none 0 0, .int .u64 7, .int .i64 10] w fun e w' => ∃ v', e = .returned v' ∧ w'.ownsRow w.heap.size 5 1 v' 1 [.int .u8 55] ∧ Below w.heap.size w w') := hC.mono fun e w' ⟨v', h1, h2, h3, _⟩ => ⟨v', h1, by simpa [Lib.decDigits, Lib.byteCells] using h2, h3⟩
  clear hC
  go_enter Tryd.func70, Tryd.ntmps70
  go_wp2_with (first | (go_at_call 75; refine hC'.out.mono ?_; rintro e w1 ⟨v', rfl, ho, hb⟩))
  go_ret
  exact ⟨_, rfl, ho, hb⟩
set_option maxHeartbeats 1000000 in
theorem app61 (w : World) : Calls Tryd.prog 61 #[.slice none 0 0, .int .i64 7, .int .i64 10] w fun e w' => ∃ v', e = .returned v' ∧ w'.ownsRow w.heap.size 5 1 v' 1 [.int .u8 55] ∧ Below w.heap.size w w' := by
  have hC' : Hid (Calls Tryd.prog 70 #[.slice none 0 0, .int .i64 7, .int .i64 10] w fun e w' => ∃ v', e = .returned v' ∧ w'.ownsRow w.heap.size 5 1 v' 1 [.int .u8 55] ∧ Below w.heap.size w w') := app70 w
  go_enter Tryd.func61, Tryd.ntmps61
  go_wp2_with (first | (go_at_call 70; refine hC'.out.mono ?_; rintro e w1 ⟨v', rfl, ho, hb⟩))
  go_ret
  exact ⟨_, rfl, ho, hb⟩
theorem new_one (W : World) (v : Value) (t : TypeId) : (W.alloc (.cells #[v] t)).cell? ((⟨W.heap.size, 0, none⟩ : Addr).add 0) = some v := by
  have h := (Cl.new W [v] t).cell (j := 0) rfl
  exact h
theorem below_grown {B : Nat} {w W W' : World} {r : Option Nat} (hB : B ≤ w.heap.size) (h : Below B w W) (g : W.grownBy W' r) (hr : ∀ k, r = some k → B ≤ k) : Below B w W' :=
  ⟨g.os.trans h.os, g.tape.trans h.tape, g.output.trans h.output, Nat.le_trans h.size g.size, fun i hi => by
    by_cases hs : i < W.heap.size
    · rw [g.block i hs (fun e => by have := hr i e.symm; omega)]
      exact h.block i hi
    · exact absurd (Nat.lt_of_lt_of_le hi (Nat.le_trans hB h.size)) hs⟩
theorem own_base {w : World} {base : Nat} {e : TypeId} {size : Nat} {v : Value} {n : Nat} {xs : List Value} (h : w.ownsRow base e size v n xs) {g : Nat} (hg : v.ownBlock = some g) : base ≤ g := by
  obtain ⟨h1, h2⟩ := h
  rcases h2 with h | ⟨g', cap, cur, e1, e2, e3, r⟩
  · rw [h.1] at hg
    cases hg
  · rw [e1] at hg
    cases hg
    exact e2
set_option maxRecDepth 20000 in
set_option maxHeartbeats 2000000 in
theorem print51 (R : Nat) (w : World) (h11 : w.cell? ⟨R, 11, none⟩ = some (.slice none 0 0)) (hR : R < w.heap.size) (z11 : w.frozen? ⟨R, 11, none⟩ = false) : Calls Tryd.prog 51 #[.pointer (some ⟨R, 0, none⟩), .int .i64 7] w fun e w' => e = .returned (.int .i64 0) ∧ ∃ g cap w1, Below w.heap.size w w1 ∧ w' = w1.setCell ⟨R, 11, none⟩ (.slice (some ⟨g, 0, none⟩) 2 cap) ∧ Cl w1 g [.int .u8 55, .int .u8 10] ∧ w.heap.size ≤ g := by
  have hC : Hid (Calls Tryd.prog 61 #[.slice none 0 0, .int .i64 7, .int .i64 10] w fun e w' => ∃ v', e = .returned v' ∧ w'.ownsRow w.heap.size 5 1 v' 1 [.int .u8 55] ∧ Below w.heap.size w w') := app61 w
  obtain ⟨i5, AN⟩ := info5'
  have AN : Hid (Tryd.prog.info? 5 = some i5 ∧ i5.zero = some (.int .u8 0) ∧ i5.size = 1 ∧ i5.bytes = 1) := AN
  go_enter Tryd.func51, Tryd.ntmps51
  go_wp2_with fail
  refine hC.out.mono ?_
  rintro e w1 ⟨v', rfl, ho, hb⟩
  have HO : Hid (w1.ownsRow w.heap.size 5 1 v' 1 [.int .u8 55]) := ho
  have HB : Hid (Below w.heap.size w w1) := hb
  have hz : R < w1.heap.size := Nat.lt_of_lt_of_le hR hb.size
  have k11 := ((bcell hb).1 R 11 hR).trans h11
  have f11 := ((bcell hb).2 R 11 hR).trans z11
  clear ho hb
  go_wp2_with (at_builtin; refine wpList_append_own _ rfl _ _ 34 rfl w.heap.size 5 i5 (.int .u8 0) 1 1 Tryd.underlying34 AN.out.1 AN.out.2.1 AN.out.2.2.1 AN.out.2.2.2 rfl (by decide) _ _ _ rfl (HO.out.alloc _) ⟨w1.heap.size, 0, none⟩ 1 1 [.int .u8 10] rfl (by rfl) (by intro j q hj; cases j with | zero => cases hj; exact new_one _ _ _ | succ j => cases hj) (by intro q hq; simp at hq; subst hq; rfl) (by unfold maxLen; omega) (by omega) (by have := HB.out.size; simp; omega) ?_)
  rintro v2 w2 ho2 hg2 _
  obtain ⟨g, cap, rfl⟩ : ∃ g cap, v2 = .slice (some ⟨g, 0, none⟩) 2 cap := by
    obtain ⟨_, ⟨_, h0⟩ | ⟨g, cap, cur, e, _⟩⟩ := ho2
    · cases h0
    · exact ⟨g, cap, e⟩
  obtain ⟨hcl, hge⟩ := Cl.own ho2
  have HC : Hid (Cl w2 g [.int .u8 55, .int .u8 10]) := hcl
  have HB2 : Hid (Below w.heap.size w w2) := below_grown (Nat.le_refl _) (HB.out.alloc HB.out.size _) hg2 (fun g hg => own_base HO.out hg)
  have hz2 : R < w2.heap.size := Nat.lt_of_lt_of_le hR HB2.out.size
  have j11 := ((bcell HB2.out).1 R 11 hR).trans h11
  have y11 := ((bcell HB2.out).2 R 11 hR).trans z11
  clear ho2 hg2 hcl k11 f11
  go_wp2
  go_ret
  exact ⟨rfl, g, cap, w2, HB2.out, rfl, HC.out, hge⟩
end Go.Proofs.YthkkoppnenfnfaaDoor

/- Blocks of cells, as they are. A run's little functions. A part of memory is found, and ends. A number is printed. -/
import Derived.Test.YtdppoblbenbafaaGreatDoorB2
import Derived.Deep.AppendLies
import Derived.Deep.RegionLawGrows
namespace Go.Proofs.YtdppoblbenbafaaGreatDoor
section
open Go.RowKit Go.Shelf
theorem cells_set {W : World} {m : Nat} {cs : Array Value} {t : TypeId} (o : Nat) (v : Value) (h : W.heap[m]? = some (Obj.cells cs t (0, 0))) : (W.setCell ⟨m, o, none⟩ v).heap[m]? = some (Obj.cells (cs.setIfInBounds o v) t (0, 0)) := by
  obtain ⟨hlt, hk⟩ := Array.getElem?_eq_some_iff.1 h
  show (W.heap.modify m _)[m]? = _
  rw [Array.getElem?_eq_getElem (by rw [Array.size_modify]; exact hlt), Array.getElem_modify_self, hk]
  rfl
theorem grown_set (W : World) (g o : Nat) (v : Value) : W.grownBy (W.setCell ⟨g, o, none⟩ v) (some g) :=
  ⟨rfl, rfl, rfl, by simp, fun k _ hne => Below.heap_setCell _ _ _ _ (fun e => hne (by rw [e]))⟩
/-- Block b begins with these cells. -/
def Cl (W : World) (b : Nat) (f : List Value) : Prop := ∃ (cs : Array Value) (t : TypeId), W.heap[b]? = some (Obj.cells cs t (0, 0)) ∧ ∀ (j : Nat) (v : Value), f[j]? = some v → cs[j]? = some v
theorem Cl.lt {W : World} {b : Nat} {f : List Value} (h : Cl W b f) : b < W.heap.size := by
  obtain ⟨cs, t, h, _⟩ := h
  exact (Array.getElem?_eq_some_iff.1 h).1
theorem Cl.cell {W : World} {b : Nat} {f : List Value} (h : Cl W b f) {j : Nat} {v : Value} (hj : f[j]? = some v) : W.cell? ⟨b, j, none⟩ = some v := by
  obtain ⟨cs, t, h, hc⟩ := h
  simp only [World.cell?, h]
  simpa using hc j v hj
theorem Cl.fz {W : World} {b : Nat} {f : List Value} (h : Cl W b f) (j : Nat) : W.frozen? ⟨b, j, none⟩ = false := by
  obtain ⟨cs, t, h, hc⟩ := h
  simp only [World.frozen?, h]
  simp
theorem Cl.keep {W W' : World} {b : Nat} {f : List Value} (h : Cl W b f) (e : W'.heap[b]? = W.heap[b]?) : Cl W' b f := by
  obtain ⟨cs, t, h, hc⟩ := h
  exact ⟨cs, t, e.trans h, hc⟩
theorem Cl.below {W W' : World} {b : Nat} {f : List Value} (h : Cl W b f) (hb : Below W.heap.size W W') : Cl W' b f := h.keep (hb.block b h.lt)
theorem Cl.alloc {W : World} {b : Nat} {f : List Value} (h : Cl W b f) (o : Obj) : Cl (W.alloc o) b f := h.below ((Below.refl _ _).alloc (Nat.le_refl _) o)
theorem Cl.drew {W : World} {b : Nat} {f : List Value} (h : Cl W b f) : Cl W.drew b f := h.below (Below.refl _ _).drew
theorem Cl.grown {W W' : World} {b : Nat} {f : List Value} {r : Option Nat} (h : Cl W b f) (g : W.grownBy W' r) (hr : some b ≠ r) : Cl W' b f := h.keep (g.block b h.lt hr)
theorem Cl.other {W : World} {b g o : Nat} {f : List Value} {v : Value} (h : Cl W b f) (hn : b ≠ g) : Cl (W.setCell ⟨g, o, none⟩ v) b f := h.grown (grown_set W g o v) (fun e => hn (by cases e; rfl))
theorem Cl.set {W : World} {b o : Nat} {f : List Value} (h : Cl W b f) (ho : o < f.length) (v : Value) : Cl (W.setCell ⟨b, o, none⟩ v) b (f.set o v) := by
  obtain ⟨cs, t, h, hc⟩ := h
  have hs : o < cs.size := by
    have := hc o (f[o]) (List.getElem?_eq_getElem ho)
    exact (Array.getElem?_eq_some_iff.1 this).1
  refine ⟨_, t, cells_set o v h, fun j u hj => ?_⟩
  rw [Array.getElem?_setIfInBounds]
  by_cases e : o = j
  · subst e
    rw [List.getElem?_set_self ho] at hj
    simp [hs]
    simpa using hj
  · rw [List.getElem?_set_ne e] at hj
    simp only [e, if_false]
    exact hc j u hj
theorem Cl.new (W : World) (f : List Value) (t : TypeId) : Cl (W.alloc (.cells f.toArray t)) W.heap.size f := by
  refine ⟨f.toArray, t, ?_, fun j v h => by simpa using h⟩
  exact (Go.MapKept.heap_alloc W _).1
theorem Cl.own {W : World} {base : Nat} {e : TypeId} {size : Nat} {g n cap : Nat} {xs : List Value} (h : W.ownsRow base e size (.slice (some ⟨g, 0, none⟩) n cap) n xs) : Cl W g xs ∧ base ≤ g := by
  have h' := h
  obtain ⟨h1, ⟨h2, h0⟩ | ⟨g', cap', cur, e1, e2, e3, e4, e5, r⟩⟩ := h
  · cases h2
  · cases e1
    refine ⟨⟨cur, e, e3, fun j v hj => ?_⟩, e2⟩
    have t := h'.cellAt j (by have := (List.getElem?_eq_some_iff.1 hj).1; omega)
    rw [hj] at t
    simp only [World.cell?, e3] at t
    simpa using t
end
section
open Go.RowKit Go.Shelf
set_option maxHeartbeats 1000000 in
theorem innermost40 (R C ca : Nat) (w : World) (h3 : w.cell? ⟨R, 3, none⟩ = some (.slice (some ⟨C, 0, none⟩) 1 ca)) : Calls Tryz.prog 98 #[.pointer (some ⟨R, 0, none⟩)] w fun e w' => e = .returned (.pointer (some ⟨C, 0, none⟩)) ∧ ∃ n, w' = w.drewN n := by
  go_enter Tryz.func98, Tryz.ntmps98
  go_wp2
  go_quiet (fail)
  go_wp2
  go_ret
  exact ⟨rfl, _, rfl⟩
theorem dcell {w : World} {b o : Nat} {v : Value} (h : w.cell? ⟨b, o, none⟩ = some v) : ∀ n, (w.drewN n).cell? ⟨b, o, none⟩ = some v := fun _ => h
set_option maxHeartbeats 1000000 in
theorem instruction34 (R C ca y x : Nat) (k : Nat) (w : World) (hk : k < 3) (h3 : w.cell? ⟨R, 3, none⟩ = some (.slice (some ⟨C, 0, none⟩) 1 ca)) (c0 : w.cell? ⟨C, 0, none⟩ = some (.slice (some ⟨y, 0, none⟩) 1 1)) (c4 : w.cell? ⟨C, 4, none⟩ = some (.int .i64 0)) (c5 : w.cell? ⟨C, 5, none⟩ = some (.int .i64 k)) (y0 : w.cell? ⟨y, 0, none⟩ = some (.slice (some ⟨x, 0, none⟩) 3 3)) : Calls Tryz.prog 69 #[.pointer (some ⟨R, 0, none⟩)] w fun e w' => e = .returned (.pointer (some ⟨x, 9 * k, none⟩)) ∧ ∃ n, w' = w.drewN n := by
  have hI : Hid (Calls Tryz.prog 98 #[.pointer (some ⟨R, 0, none⟩)] w fun e w' => e = .returned (.pointer (some ⟨C, 0, none⟩)) ∧ ∃ n, w' = w.drewN n) := innermost40 R C ca w h3
  have c0' := dcell c0
  have c4' := dcell c4
  have c5' := dcell c5
  have y0' := dcell y0
  clear c0 c4 c5 y0 h3
  rcases (by omega : k = 0 ∨ k = 1 ∨ k = 2) with rfl | rfl | rfl
  all_goals
    go_enter Tryz.func69, Tryz.ntmps69
    go_wp2_with (first | (go_at_call 98; refine hI.out.mono ?_; rintro e w1 ⟨rfl, n1, rfl⟩))
    go_quiet (fail)
    go_wp2
    go_ret
    exact ⟨rfl, _, World.drewN_drewN _ _ _⟩
set_option maxHeartbeats 1000000 in
theorem deep_1 (R x o : Nat) (w : World) (h : w.cell? ⟨x, o, none⟩ = some (.int .i64 1)) : Calls Tryz.prog 70 #[.pointer (some ⟨R, 0, none⟩), .pointer (some ⟨x, o, none⟩)] w fun e w' => e = .returned (.bool false) ∧ w' = w := by
  go_enter Tryz.func70, Tryz.ntmps70
  go_wp2
  go_ret
  exact ⟨rfl, rfl⟩
set_option maxHeartbeats 1000000 in
theorem deep_10 (R x o : Nat) (w : World) (h : w.cell? ⟨x, o, none⟩ = some (.int .i64 10)) : Calls Tryz.prog 70 #[.pointer (some ⟨R, 0, none⟩), .pointer (some ⟨x, o, none⟩)] w fun e w' => e = .returned (.bool false) ∧ w' = w := by
  go_enter Tryz.func70, Tryz.ntmps70
  go_wp2
  go_ret
  exact ⟨rfl, rfl⟩
set_option maxHeartbeats 1000000 in
theorem deep_call (R C ca x o : Nat) (w : World) (h3 : w.cell? ⟨R, 3, none⟩ = some (.slice (some ⟨C, 0, none⟩) 1 ca)) (h : w.cell? ⟨x, o, none⟩ = some (.int .i64 7)) : Calls Tryz.prog 70 #[.pointer (some ⟨R, 0, none⟩), .pointer (some ⟨x, o, none⟩)] w fun e w' => e = .returned (.bool false) ∧ w' = w := by
  go_enter Tryz.func70, Tryz.ntmps70
  go_wp2
  go_ret
  exact ⟨rfl, rfl⟩
set_option maxHeartbeats 1000000 in
theorem end36 (R : Nat) (a b : Int) (f : List Value) (w : World) (h : Cl w R f) (hf : f.length = 13) : Calls Tryz.prog 71 #[.pointer (some ⟨R, 0, none⟩), .int .i64 a, .int .i64 b] w fun e w' => e = .returned (.tuple #[]) ∧ w' = (w.setCell ⟨R, 9, none⟩ (.int .i64 a)).setCell ⟨R, 10, none⟩ (.int .i64 b) := by
  have c9 := h.cell (j := 9) (List.getElem?_eq_getElem (by omega))
  have c10 := h.cell (j := 10) (List.getElem?_eq_getElem (by omega))
  have z9 := h.fz 9
  have z10 := h.fz 10
  generalize f[9] = v9 at *
  generalize f[10] = v10 at *
  clear h
  go_enter Tryz.func71, Tryz.ntmps71
  go_wp2
  go_returns
  exact ⟨rfl, rfl⟩
set_option maxHeartbeats 1000000 in
theorem value_none (C : Nat) (w : World) : Calls Tryz.prog 103 #[.pointer (some ⟨C, 0, none⟩), .int .i64 (-1)] w fun e w' => e = .returned (.int .i64 0) ∧ w' = w := by
  go_enter Tryz.func103, Tryz.ntmps103
  go_wp2
  go_ret
  exact ⟨rfl, rfl⟩
set_option maxHeartbeats 1000000 in
theorem answer_none (R : Nat) (v : Int) (w : World) : Calls Tryz.prog 132 #[.pointer (some ⟨R, 0, none⟩), .int .i64 (-1), .int .i64 v] w fun e w' => e = .returned (.tuple #[]) ∧ w' = w := by
  go_enter Tryz.func132, Tryz.ntmps132
  go_wp2
  go_returns
  exact ⟨rfl, rfl⟩
end
section
open Go.RowKit Go.Shelf
set_option maxHeartbeats 1000000 in
theorem later69 (R P pa b1 b2 : Nat) (w : World) (h1 : w.cell? ⟨b1, 0, none⟩ = some (.pointer (some ⟨R, 4, none⟩))) (h2 : w.cell? ⟨b2, 0, none⟩ = some (.int .i64 65536)) (h4 : w.cell? ⟨R, 4, none⟩ = some (.slice (some ⟨P, 0, none⟩) 1 pa)) (p1 : w.cell? ⟨P, 1, none⟩ = some (.int .i64 65536)) : Calls Tryz.prog 167 #[.int .i64 0, .pointer (some ⟨b1, 0, none⟩), .pointer (some ⟨b2, 0, none⟩)] w fun e w' => e = .returned (.bool false) ∧ ∃ n, w' = w.drewN n := by
  go_enter Tryz.func167, Tryz.ntmps167
  go_wp2
  go_quiet (fail)
  go_wp2
  go_ret
  exact ⟨rfl, _, rfl⟩
set_option maxHeartbeats 2000000 in
theorem search68 (R P pa b1 b2 : Nat) (w : World) (h1 : w.cell? ⟨b1, 0, none⟩ = some (.pointer (some ⟨R, 4, none⟩))) (h2 : w.cell? ⟨b2, 0, none⟩ = some (.int .i64 65536)) (h4 : w.cell? ⟨R, 4, none⟩ = some (.slice (some ⟨P, 0, none⟩) 1 pa)) (p1 : w.cell? ⟨P, 1, none⟩ = some (.int .i64 65536)) : Calls Tryz.prog 166 #[.int .i64 1, .func (.func 167) #[] #[.pointer (some ⟨b1, 0, none⟩), .pointer (some ⟨b2, 0, none⟩)]] w fun e w' => e = .returned (.int .i64 1) ∧ ∃ n, w' = w.drewN n := by
  have hL : Hid (Calls Tryz.prog 167 #[.int .i64 0, .pointer (some ⟨b1, 0, none⟩), .pointer (some ⟨b2, 0, none⟩)] w fun e w' => e = .returned (.bool false) ∧ ∃ n, w' = w.drewN n) := later69 R P pa b1 b2 w h1 h2 h4 p1
  clear h1 h2 h4 p1
  go_enter Tryz.func166, Tryz.ntmps166
  go_wp2
  refine wp_loop_rounds 2 ?_
  rw [rounds_succ]
  go_wp2_with (first | (go_at_call 167; refine hL.out.mono ?_; rintro e w1 ⟨rfl, n1, rfl⟩))
  rw [rounds_succ]
  go_wp2
  go_ret
  exact ⟨rfl, _, rfl⟩
set_option maxHeartbeats 2000000 in
theorem find60 (R P pa : Nat) (w : World) (h4 : w.cell? ⟨R, 4, none⟩ = some (.slice (some ⟨P, 0, none⟩) 1 pa)) (p1 : w.cell? ⟨P, 1, none⟩ = some (.int .i64 65536)) (hR : R < w.heap.size) (hP : P < w.heap.size) : Calls Tryz.prog 153 #[.pointer (some ⟨R, 4, none⟩), .int .i64 65536] w fun e w' => e = .returned (.int .i64 0) ∧ Below w.heap.size w w' := by
  have q4 := acell (by simp; omega) (acell hR h4 (.cells #[.pointer (some ⟨R, 4, none⟩)] 172)) (.cells #[.int .i64 65536] 2)
  have q1 := acell (by simp; omega) (acell hP p1 (.cells #[.pointer (some ⟨R, 4, none⟩)] 172)) (.cells #[.int .i64 65536] 2)
  have hS := search68 R P pa w.heap.size (w.heap.size + 1) _ (by go_simp) (by go_simp) q4 q1
  go_enter Tryz.func153, Tryz.ntmps153
  go_wp2_with (first | (go_at_call 166; refine hS.mono ?_; rintro e w1 ⟨rfl, n1, rfl⟩))
  go_ret
  exact ⟨rfl, below_drewN (((Below.refl _ _).alloc (Nat.le_refl _) _).alloc (by simp) _) n1⟩
end
section
open Go.RowKit Go.Shelf
theorem info5 : (Tryz.prog.info? 5).map (fun i => (i.zero, i.size, i.bytes)) = some (some (.int .u8 0), 1, 1) := by kernel_rfl
theorem info5' : ∃ i, Tryz.prog.info? 5 = some i ∧ i.zero = some (.int .u8 0) ∧ i.size = 1 ∧ i.bytes = 1 := by
  have h := info5
  cases hi : Tryz.prog.info? 5 with
  | none => rw [hi] at h; cases h
  | some i => rw [hi] at h; simp at h; exact ⟨i, rfl, h⟩
set_option maxHeartbeats 1000000 in
theorem app70 (w : World) : Calls Tryz.prog 168 #[.slice none 0 0, .int .i64 7, .int .i64 10] w fun e w' => ∃ v', e = .returned v' ∧ w'.ownsRow w.heap.size 5 1 v' 1 [.int .u8 55] ∧ Below w.heap.size w w' := by
  have hC := Tryz.internal_strconv_AppendUint_10_small w.heap.size 0 7 (by omega) (.slice none 0 0) [] w (World.ownsRow_nil _ _ _ _) (Nat.le_refl _) (by omega)
  have hC' : Hid (Calls Tryz.prog 180 #[.slice none 0 0, .int .u64 7, .int .i64 10] w fun e w' => ∃ v', e = .returned v' ∧ w'.ownsRow w.heap.size 5 1 v' 1 [.int .u8 55] ∧ Below w.heap.size w w') := hC.mono fun e w' ⟨v', h1, h2, h3, _⟩ => ⟨v', h1, by simpa [Lib.decDigits, Lib.byteCells] using h2, h3⟩
  clear hC
  go_enter Tryz.func168, Tryz.ntmps168
  go_wp2_with (first | (go_at_call 180; refine hC'.out.mono ?_; rintro e w1 ⟨v', rfl, ho, hb⟩))
  go_ret
  exact ⟨_, rfl, ho, hb⟩
set_option maxHeartbeats 1000000 in
theorem app61 (w : World) : Calls Tryz.prog 154 #[.slice none 0 0, .int .i64 7, .int .i64 10] w fun e w' => ∃ v', e = .returned v' ∧ w'.ownsRow w.heap.size 5 1 v' 1 [.int .u8 55] ∧ Below w.heap.size w w' := by
  have hC' : Hid (Calls Tryz.prog 168 #[.slice none 0 0, .int .i64 7, .int .i64 10] w fun e w' => ∃ v', e = .returned v' ∧ w'.ownsRow w.heap.size 5 1 v' 1 [.int .u8 55] ∧ Below w.heap.size w w') := app70 w
  go_enter Tryz.func154, Tryz.ntmps154
  go_wp2_with (first | (go_at_call 168; refine hC'.out.mono ?_; rintro e w1 ⟨v', rfl, ho, hb⟩))
  go_ret
  exact ⟨_, rfl, ho, hb⟩
theorem new_one (W : World) (v : Value) (t : TypeId) : (W.alloc (.cells #[v] t)).cell? ((⟨W.heap.size, 0, none⟩ : Addr).add 0) = some v := by
  have h := (Cl.new W [v] t).cell (j := 0) rfl
  exact h
theorem below_grown {B : Nat} {w W W' : World} {r : Option Nat} (hB : B ≤ w.heap.size) (h : Below B w W) (g : W.grownBy W' r) (hr : ∀ k, r = some k → B ≤ k) : Below B w W' :=
  ⟨g.os.trans h.os, g.tape.trans h.tape, g.output.trans h.output, Nat.le_trans h.size g.size, fun i hi => by
    by_cases hs : i < W.heap.size
    · rw [g.block i hs (fun e => by have := hr i e.symm; omega)]
      exact h.block i hi
    · exact absurd (Nat.lt_of_lt_of_le hi (Nat.le_trans hB h.size)) hs⟩
theorem own_base {w : World} {base : Nat} {e : TypeId} {size : Nat} {v : Value} {n : Nat} {xs : List Value} (h : w.ownsRow base e size v n xs) {g : Nat} (hg : v.ownBlock = some g) : base ≤ g := by
  obtain ⟨h1, h2⟩ := h
  rcases h2 with h | ⟨g', cap, cur, e1, e2, e3, r⟩
  · rw [h.1] at hg
    cases hg
  · rw [e1] at hg
    cases hg
    exact e2
set_option maxRecDepth 20000 in
set_option maxHeartbeats 2000000 in
theorem print51 (R : Nat) (w : World) (h11 : w.cell? ⟨R, 11, none⟩ = some (.slice none 0 0)) (hR : R < w.heap.size) (z11 : w.frozen? ⟨R, 11, none⟩ = false) : Calls Tryz.prog 133 #[.pointer (some ⟨R, 0, none⟩), .int .i64 7] w fun e w' => e = .returned (.int .i64 0) ∧ ∃ g cap w1, Below w.heap.size w w1 ∧ w' = w1.setCell ⟨R, 11, none⟩ (.slice (some ⟨g, 0, none⟩) 2 cap) ∧ Cl w1 g [.int .u8 55, .int .u8 10] ∧ w.heap.size ≤ g := by
  have hC : Hid (Calls Tryz.prog 154 #[.slice none 0 0, .int .i64 7, .int .i64 10] w fun e w' => ∃ v', e = .returned v' ∧ w'.ownsRow w.heap.size 5 1 v' 1 [.int .u8 55] ∧ Below w.heap.size w w') := app61 w
  obtain ⟨i5, AN⟩ := info5'
  have AN : Hid (Tryz.prog.info? 5 = some i5 ∧ i5.zero = some (.int .u8 0) ∧ i5.size = 1 ∧ i5.bytes = 1) := AN
  go_enter Tryz.func133, Tryz.ntmps133
  go_wp2_with fail
  refine hC.out.mono ?_
  rintro e w1 ⟨v', rfl, ho, hb⟩
  have HO : Hid (w1.ownsRow w.heap.size 5 1 v' 1 [.int .u8 55]) := ho
  have HB : Hid (Below w.heap.size w w1) := hb
  have hz : R < w1.heap.size := Nat.lt_of_lt_of_le hR hb.size
  have k11 := ((bcell hb).1 R 11 hR).trans h11
  have f11 := ((bcell hb).2 R 11 hR).trans z11
  clear ho hb
  go_wp2_with (at_builtin; refine wpList_append_own _ rfl _ _ 33 rfl w.heap.size 5 i5 (.int .u8 0) 1 1 Tryz.underlying33 AN.out.1 AN.out.2.1 AN.out.2.2.1 AN.out.2.2.2 rfl (by decide) _ _ _ rfl (HO.out.alloc _) ⟨w1.heap.size, 0, none⟩ 1 1 [.int .u8 10] rfl (by rfl) (by intro j q hj; cases j with | zero => cases hj; exact new_one _ _ _ | succ j => cases hj) (by intro q hq; simp at hq; subst hq; rfl) (by unfold maxLen; omega) (by omega) (by have := HB.out.size; simp; omega) ?_)
  rintro v2 w2 ho2 hg2 _
  obtain ⟨g, cap, rfl⟩ : ∃ g cap, v2 = .slice (some ⟨g, 0, none⟩) 2 cap := by
    obtain ⟨_, ⟨_, h0⟩ | ⟨g, cap, cur, e, _⟩⟩ := ho2
    · cases h0
    · exact ⟨g, cap, e⟩
  obtain ⟨hcl, hge⟩ := Cl.own ho2
  have HC : Hid (Cl w2 g [.int .u8 55, .int .u8 10]) := hcl
  have HB2 : Hid (Below w.heap.size w w2) := below_grown (Nat.le_refl _) (HB.out.alloc HB.out.size _) hg2 (fun g hg => own_base HO.out hg)
  have hz2 : R < w2.heap.size := Nat.lt_of_lt_of_le hR HB2.out.size
  have j11 := ((bcell HB2.out).1 R 11 hR).trans h11
  have y11 := ((bcell HB2.out).2 R 11 hR).trans z11
  clear ho2 hg2 hcl k11 f11
  go_wp2
  go_ret
  exact ⟨rfl, g, cap, w2, HB2.out, rfl, HC.out, hge⟩
end
end Go.Proofs.YtdppoblbenbafaaGreatDoor

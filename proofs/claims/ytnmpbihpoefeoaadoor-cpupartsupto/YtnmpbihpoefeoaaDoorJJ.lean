/- Of a memory: what a store leaves. Of a memory: loads and stores at whatever places; the bytes by their places. -/
import Derived.Test.YtnmpbihpoefeoaaDoorMM
namespace Go.Proofs.YtnmpbihpoefeoaaDoor
section
open Go.RowKit Go.Shelf
attribute [local go_sem] Oper.semAt_some
/-- What Load tells. -/
def loadV (ps : List Pgd) (bt : Nat → Nat → Int) (a : Int) (n : Nat) : Int := if useE ps a n 4 = 0 then sumV (byts ps bt a n) else 0
set_option maxHeartbeats 1000000 in
theorem load_any (b r : Nat) (ps : List Pgd) (bt : Nat → Nat → Int) (a : Int) (n : Nat) (w : World) (h : Mm w b r ps bt) (a0 : 0 ≤ a) (hn : isN n) (h1 : a + n ≤ 281474976710656) : Calls Tryd.prog 75 #[.pointer (some ⟨b, 0, none⟩), .int .u64 a, .int .i64 n] w fun e w' => e = .returned (.tuple #[.int .u64 (loadV ps bt a n), .int .i64 (useE ps a n 4)]) ∧ Below w.heap.size w w' := by
  have n1 : 1 ≤ n ∧ n ≤ 8 := by unfold isN at hn; omega
  have HU := number_any b r ps bt a n 4 w h a0 hn h1
  by_cases hu : useE ps a n 4 = 0
  · have HV : Hid (∀ W, Below w.heap.size w W → Calls Tryd.prog 56 #[.pointer (some ⟨b, 0, none⟩), .int .u64 a, .int .i64 n] W fun e w' => e = .returned (.int .u64 (sumV (byts ps bt a n))) ∧ Below W.heap.size W w') := fun W hb => by
      have t := value_any b r ps bt a n (pM a n) (pgX ps a) W (h.below hb) a0 (by omega) (by omega) h1 (pM_iff a0 (by omega) (by omega)) (by unfold pM; split <;> omega) (useE_zero hu)
      rw [pieces_byts a0 n1.1 n1.2, accV_sum _ _ rfl (fun x hx => by obtain ⟨j, _, rfl⟩ := List.mem_map.1 hx; exact h.small _ _) (by rw [byts_len]; omega)] at t
      exact t
    unfold loadV
    rw [if_pos hu]
    rw [hu] at HU ⊢
    have HU' : Hid (Calls Tryd.prog 55 #[.pointer (some ⟨b, 0, none⟩), .int .u64 a, .int .i64 n, .int .i64 4] w fun e w' => e = .returned (.int .i64 0) ∧ Below w.heap.size w w') := HU
    clear HU hu h
    generalize sumV (byts ps bt a n) = v at *
    go_enter Tryd.func75, Tryd.ntmps75
    go_wp2_with fail
    refine HU'.out.mono ?_
    rintro e w1 ⟨rfl, hb⟩
    have HB : Hid (Below w.heap.size w w1) := hb
    clear hb
    go_wp2_with fail
    refine (HV.out w1 HB.out).mono ?_
    rintro e w2 ⟨rfl, hb⟩
    have HB2 : Hid (Below w.heap.size w w2) := HB.out.trans (hb.mono HB.out.size)
    clear hb
    go_wp2
    go_ret2
    exact ⟨rfl, HB2.out⟩
  · unfold loadV
    rw [if_neg hu]
    generalize useE ps a n 4 = res at *
    have HU' : Hid (Calls Tryd.prog 55 #[.pointer (some ⟨b, 0, none⟩), .int .u64 a, .int .i64 n, .int .i64 4] w fun e w' => e = .returned (.int .i64 res) ∧ Below w.heap.size w w') := HU
    clear HU h
    go_enter Tryd.func75, Tryd.ntmps75
    go_wp2_with fail
    refine HU'.out.mono ?_
    rintro e w1 ⟨rfl, hb⟩
    have HB : Hid (Below w.heap.size w w1) := hb
    clear hb
    go_wp2
    go_ret2
    exact ⟨rfl, HB.out⟩
/-- A memory whose pages lie in blocks of their own. -/
structure Mo (W : World) (b r : Nat) (ps : List Pgd) (bt : Nat → Nat → Int) : Prop where
  mm : Mm W b r ps bt
  own : ∀ x ∈ ps, ∃ cur, W.heap[x.g]? = some (Obj.cells cur 5 (0, 0))
  apart : ∀ x ∈ ps, ∀ y ∈ ps, x.g = y.g → x = y
def setB (bt : Nat → Nat → Int) (g j : Nat) (y : Int) : Nat → Nat → Int := fun g' j' => if g' = g ∧ j' = j then y else bt g' j'
theorem Mo.ne {W : World} {b r : Nat} {ps : List Pgd} {bt : Nat → Nat → Int} (h : Mo W b r ps bt) {x : Pgd} (hx : x ∈ ps) : x.g ≠ b ∧ x.g ≠ r ∧ x.g < W.heap.size := by
  obtain ⟨cur, hc⟩ := h.own x hx
  refine ⟨fun e => ?_, fun e => ?_, lt_of_some hc⟩
  · have t := h.mm.data x hx 0 (by omega)
    rw [e, h.mm.cell] at t
    cases t
  · have t := h.mm.map
    rw [← e, hc] at t
    cases t
/-- All blocks below B but the pages' stay. -/
structure But (ps : List Pgd) (B : Nat) (w W : World) : Prop where
  os : W.os = w.os
  tape : W.tape = w.tape
  output : W.output = w.output
  size : w.heap.size ≤ W.heap.size
  block : ∀ k, k < B → (∀ x ∈ ps, k ≠ x.g) → W.heap[k]? = w.heap[k]?
theorem But.of_below {ps : List Pgd} {B : Nat} {w W : World} (h : Below B w W) : But ps B w W := ⟨h.os, h.tape, h.output, h.size, fun k hk _ => h.block k hk⟩
theorem But.below {ps : List Pgd} {B B' : Nat} {w W : World} (h : But ps B' w W) (hb : B ≤ B') (hg : ∀ x ∈ ps, B ≤ x.g) : Below B w W := ⟨h.os, h.tape, h.output, h.size, fun k hk => h.block k (by omega) (fun x hx e => by have := hg x hx; omega)⟩
theorem But.trans {ps : List Pgd} {B : Nat} {w W W' : World} (h : But ps B w W) (k : But ps B W W') : But ps B w W' := ⟨k.os.trans h.os, k.tape.trans h.tape, k.output.trans h.output, Nat.le_trans h.size k.size, fun i hi hx => (k.block i hi hx).trans (h.block i hi hx)⟩
theorem But.grown {ps : List Pgd} {B : Nat} {w W W' : World} {row : Option Nat} (h : But ps B w W) (hg : W.grownBy W' row) (hB : B ≤ W.heap.size) (hr : ∀ k, row = some k → B ≤ k ∨ ∃ x ∈ ps, k = x.g) : But ps B w W' := by
  refine ⟨hg.os.trans h.os, hg.tape.trans h.tape, hg.output.trans h.output, Nat.le_trans h.size hg.size, fun k hk hx => (hg.block k (by omega) (fun e => ?_)).trans (h.block k hk hx)⟩
  rcases hr k e.symm with h1 | ⟨x, hx1, e1⟩
  · omega
  · exact hx x hx1 e1
theorem Mo.grown {W W' : World} {b r : Nat} {ps : List Pgd} {bt : Nat → Nat → Int} {row : Option Nat} (h : Mo W b r ps bt) (hg : W.grownBy W' row) (hb : row ≠ some b) (hr : row ≠ some r) (hx : ∀ x ∈ ps, row ≠ some x.g) : Mo W' b r ps bt := by
  have F : ∀ k, k < W.heap.size → row ≠ some k → W'.heap[k]? = W.heap[k]? := fun k hk hn => hg.block k hk (fun e => hn e.symm)
  have lb := lt_of_cell h.mm.cell
  have lr := lt_of_some h.mm.map
  refine ⟨⟨?_, (F r lr hr).trans h.mm.map, fun x hxm j hj => ?_, h.mm.small, h.mm.caps⟩, fun x hxm => ?_, h.apart⟩
  · have t := h.mm.cell; simp only [World.cell?, F b lb hb] at t ⊢; exact t
  · have t := h.mm.data x hxm j hj; simp only [World.cell?, F x.g (h.ne hxm).2.2 (hx x hxm)] at t ⊢; exact t
  · obtain ⟨cur, hc⟩ := h.own x hxm; exact ⟨cur, (F x.g (h.ne hxm).2.2 (hx x hxm)).trans hc⟩
theorem Mo.put {W : World} {b r : Nat} {ps : List Pgd} {bt : Nat → Nat → Int} (h : Mo W b r ps bt) {x : Pgd} (hx : x ∈ ps) {j : Nat} (hj : j < 4096) {y : Int} (hy : 0 ≤ y ∧ y < 256) : Mo (W.setCell ⟨x.g, j, none⟩ (.int .u8 y)) b r ps (setB bt x.g j y) := by
  obtain ⟨n1, n2, n3⟩ := h.ne hx
  have hg := grown_set W x.g j (.int .u8 y)
  have F : ∀ k, k < W.heap.size → k ≠ x.g → (W.setCell ⟨x.g, j, none⟩ (.int .u8 y)).heap[k]? = W.heap[k]? := fun k hk hn => hg.block k hk (fun e => hn (by cases e; rfl))
  have lb := lt_of_cell h.mm.cell
  have lr := lt_of_some h.mm.map
  refine ⟨⟨?_, (F r lr (Ne.symm n2)).trans h.mm.map, fun z hz i hi => ?_, fun g i => ?_, h.mm.caps⟩, fun z hz => ?_, h.apart⟩
  · have t := h.mm.cell; simp only [World.cell?, F b lb (Ne.symm n1)] at t ⊢; exact t
  · unfold setB
    by_cases e : z.g = x.g
    · by_cases ei : i = j
      · subst ei
        rw [if_pos ⟨e, rfl⟩, e]
        exact World.cell?_setCell_same _ _ _ (h.mm.data x hx i hj)
      · rw [if_neg (fun k => ei k.2), e]
        have t := h.mm.data z hz i hi
        rw [e] at t
        rw [← t]
        obtain ⟨cur, hc⟩ := h.own x hx
        simp only [World.cell?, cells_set j _ hc, hc]
        simp [Ne.symm ei]
    · rw [if_neg (fun k => e k.1)]
      have t := h.mm.data z hz i hi
      simp only [World.cell?, F z.g (h.ne hz).2.2 e] at t ⊢; exact t
  · unfold setB; split
    · exact hy
    · exact h.mm.small g i
  · by_cases e : z.g = x.g
    · obtain ⟨cur, hc⟩ := h.own x hx; rw [e]; exact ⟨_, cells_set j _ hc⟩
    · obtain ⟨cur, hc⟩ := h.own z hz; exact ⟨cur, (F z.g (h.ne hz).2.2 e).trans hc⟩
/-- A byte written, the rest of the number behind it. -/
def wrS (s : (Nat → Nat → Int) × Int) (p : Nat × Nat) : (Nat → Nat → Int) × Int := (setB s.1 p.1 p.2 (s.2 % 256), s.2 / 256)
def wrL (bt : Nat → Nat → Int) (v : Int) (l : List (Nat × Nat)) : (Nat → Nat → Int) × Int := l.foldl wrS (bt, v)
theorem wrL_snoc (bt : Nat → Nat → Int) (v : Int) (l : List (Nat × Nat)) (p : Nat × Nat) : wrL bt v (l ++ [p]) = wrS (wrL bt v l) p := by simp [wrL, List.foldl_append]
theorem wrL_bound (bt : Nat → Nat → Int) (v : Int) (h0 : 0 ≤ v) (h1 : v < 18446744073709551616) : ∀ (n : Nat) (l : List (Nat × Nat)), l.length = n → 0 ≤ (wrL bt v l).2 ∧ (wrL bt v l).2 < 18446744073709551616
  | 0, l, hn => by rw [List.length_eq_zero_iff.1 hn]; exact ⟨h0, h1⟩
  | n + 1, l, hn => by
    rcases List.eq_nil_or_concat l with rfl | ⟨l, y, rfl⟩
    · cases hn
    · simp only [List.concat_eq_append, List.length_append, List.length_singleton] at hn ⊢
      have := wrL_bound bt v h0 h1 n l (by omega)
      rw [wrL_snoc]
      unfold wrS
      simp only []
      omega
/-- The places of a piece. -/
def plcs (a n : Int) (X : Nat → Pgd) (i : Nat) : List (Nat × Nat) := (List.range (pL a n i)).map fun j => ((X i).g, pO a i + j)
structure Sv (w W0 W : World) (b r m : Nat) (ps : List Pgd) (s : (Nat → Nat → Int) × Int) (W' : World) : Prop where
  box : Boxed W' w.heap.size 22 (.int .u64 s.2)
  mo : Mo W' b r ps s.1
  but : But ps w.heap.size w W'
  keeps : KeepsFrom W0.heap.size W W'
  keep : Keep b r m W W'
theorem Sv.setv {w W0 W W' : World} {b r m : Nat} {ps : List Pgd} {bt : Nat → Nat → Int} {v x v' : Int} (h : Sv w W0 W b r m ps (bt, v) W') (hx : x = v') (lb : b < w.heap.size) (lr : r < w.heap.size) (lg : ∀ x ∈ ps, x.g < w.heap.size) (hm : w.heap.size < m) (hm2 : m < W0.heap.size) (hsz : W0.heap.size ≤ W.heap.size) : Sv w W0 W b r m ps (bt, v') (W'.setCell ⟨w.heap.size, 0, none⟩ (.int .u64 x)) := by
  subst hx
  have z := h.keeps.size
  have z2 := h.but.size
  have hg := grown_set W' w.heap.size 0 (.int .u64 x)
  exact ⟨h.box.set _, h.mo.grown hg (by intro e; cases e; omega) (by intro e; cases e; omega) (fun y hy e => by have := lg y hy; have := Option.some.inj e; omega), h.but.grown hg (by omega) (fun k e => .inl (by cases e; omega)), h.keeps.trans (KeepsFrom.of_grownBy hg (fun k e => by cases e; omega)), h.keep.trans (Keep.grown hg (by omega) (by omega) (by omega) (by intro e; cases e; omega) (by intro e; cases e; omega) (by intro e; cases e; omega))⟩
theorem Sv.put {w W0 W W' : World} {b r m : Nat} {ps : List Pgd} {bt : Nat → Nat → Int} {v y y' : Int} {x : Pgd} {j : Nat} (h : Sv w W0 W b r m ps (bt, v) W') (hx : x ∈ ps) (hj : j < 4096) (hy : y = y') (hb : 0 ≤ y' ∧ y' < 256) (lb : b < w.heap.size) (lr : r < w.heap.size) (lg : ∀ x ∈ ps, x.g < w.heap.size) (hm : w.heap.size < m) (hm2 : m < W0.heap.size) (hsz : W0.heap.size ≤ W.heap.size) : Sv w W0 W b r m ps (setB bt x.g j y', v) (W'.setCell ⟨x.g, j, none⟩ (.int .u8 y)) := by
  subst hy
  have z := h.keeps.size
  have z2 := h.but.size
  have z3 := lg x hx
  obtain ⟨n1, n2, n3⟩ := h.mo.ne hx
  have hg := grown_set W' x.g j (.int .u8 y)
  exact ⟨h.box.kept hg (by intro e; have := Option.some.inj e; omega), h.mo.put hx hj hb, h.but.grown hg (by omega) (fun k e => .inr ⟨x, hx, (Option.some.inj e).symm⟩), h.keeps.trans (KeepsFrom.of_grownBy hg (fun k e => by have := Option.some.inj e; omega)), h.keep.trans (Keep.grown hg (by omega) (by omega) (by omega) (by intro e; have := Option.some.inj e; omega) (by intro e; have := Option.some.inj e; omega) (by intro e; have := Option.some.inj e; omega))⟩
theorem Mo.below {W W' : World} {b r : Nat} {ps : List Pgd} {bt : Nat → Nat → Int} (h : Mo W b r ps bt) (hb : Below W.heap.size W W') : Mo W' b r ps bt := ⟨h.mm.below hb, fun x hx => by obtain ⟨cur, hc⟩ := h.own x hx; exact ⟨cur, (hb.block x.g (lt_of_some hc)).trans hc⟩, h.apart⟩
set_option maxRecDepth 100000 in
set_option maxHeartbeats 2000000 in
theorem store_ok (b r : Nat) (ps : List Pgd) (bt : Nat → Nat → Int) (a v : Int) (n m : Nat) (X : Nat → Pgd) (w : World) (h : Mo w b r ps bt) (a0 : 0 ≤ a) (hn : isN n) (h48 : a + n ≤ 281474976710656) (v0 : 0 ≤ v) (v1 : v < 18446744073709551616) (hu : useE ps a n 2 = 0) (hmm : ∀ i, i < m ↔ pl a i < a + n) (hX : ∀ i, i < m → pg ps (pB a i) = some (X i)) : Calls Tryd.prog 76 #[.pointer (some ⟨b, 0, none⟩), .int .u64 a, .int .i64 n, .int .u64 v] w fun e w' => e = .returned (.int .i64 0) ∧ But ps w.heap.size w w' ∧ Mo w' b r ps (wrL bt v ((List.finRange m).flatMap fun x => plcs a n X x.1)).1 := by
  have HH : Hid (Mo w b r ps bt) := h
  have l1 := lt_of_some h.mm.map
  have l2 := lt_of_cell h.mm.cell
  have lg : ∀ x ∈ ps, x.g < w.heap.size := fun x hx => (h.ne hx).2.2
  have HU : Hid (Calls Tryd.prog 55 #[.pointer (some ⟨b, 0, none⟩), .int .u64 a, .int .i64 n, .int .i64 2] (w.alloc (.cells #[.int .u64 v] 22)) fun e w' => e = .returned (.int .i64 0) ∧ Below (w.heap.size + 1) (w.alloc (.cells #[.int .u64 v] 22)) w') := by
    have t := number_any b r ps bt a n 2 (w.alloc (.cells #[.int .u64 v] 22)) (h.mm.below ((Below.refl _ w).alloc (Nat.le_refl _) _)) a0 hn h48
    rw [hu] at t
    simp at t
    exact t
  clear h
  refine (callsIn_wide (n := 4)).1 ?_
  refine callsIn_of_wp_marks Tryd.func76 rfl trivial ?_ rfl
  simp only [Tryd.ntmps76, List.size_toArray, List.length_cons, List.length_nil, Nat.reduceAdd, Nat.reduceSub, Array.replicate_succ, Array.replicate_zero, List.push_toArray, List.append_toArray, List.nil_append, List.cons_append]
  gi_wp2_with (refine ⟨trivial, ?_⟩; first | (gi_at_call 55; refine (callsIn_wide.2 HU.out).mono ?_; rintro e w1 ⟨rfl, hb1⟩) | (gi_at_call 70; refine (callsIn_wide.2 (runs29 b a n _)).mono ?_; rintro e w' ⟨rfl, rfl⟩))
  obtain ⟨W0, hW0⟩ : ∃ W0, (((w1.alloc (.cells #[.pointer (some ⟨b, 0, none⟩)] 66)).alloc (.cells #[.int .u64 a] 22)).alloc (.cells #[.int .i64 n] 3)) = W0 := ⟨_, rfl⟩
  have hs1 : w.heap.size + 1 ≤ w1.heap.size := by have := hb1.size; simpa using this
  have bv : Boxed w1 w.heap.size 22 (.int .u64 v) := (hb1.block w.heap.size (by omega)).trans (Boxed.new w 22 (.int .u64 v))
  have b0 : Boxed W0 w.heap.size 22 (.int .u64 v) := by rw [← hW0]; exact ((bv.alloc _).alloc _).alloc _
  have b2 : Boxed W0 w1.heap.size 66 (.pointer (some ⟨b, 0, none⟩)) := by rw [← hW0]; exact ((Boxed.new w1 66 (.pointer (some ⟨b, 0, none⟩))).alloc _).alloc _
  have b3 : Boxed W0 (w1.heap.size + 1) 22 (.int .u64 a) := by rw [← hW0]; have := ((Boxed.new (w1.alloc (.cells #[.pointer (some ⟨b, 0, none⟩)] 66)) 22 (.int .u64 a)).alloc (.cells #[.int .i64 n] 3)); simpa using this
  have b4 : Boxed W0 (w1.heap.size + 1 + 1) 3 (.int .i64 n) := by rw [← hW0]; have := (Boxed.new ((w1.alloc (.cells #[.pointer (some ⟨b, 0, none⟩)] 66)).alloc (.cells #[.int .u64 a] 22)) 3 (.int .i64 n)); simpa using this
  have hs : W0.heap.size = w1.heap.size + 3 := by rw [← hW0]; simp
  have hB1 : Below w1.heap.size w1 W0 := by rw [← hW0]; exact (((Below.refl _ w1).alloc (Nat.le_refl _) _).alloc (by simp) _).alloc (by simp; omega) _
  have hB0 : Below w.heap.size w W0 := (((Below.refl _ w).alloc (Nat.le_refl _) (.cells #[.int .u64 v] 22)).trans (hb1.mono (by omega))).trans (hB1.mono (by omega))
  have hM0 : Mo W0 b r ps bt := HH.out.below hB0
  clear hb1 hB1 bv
  rw [hW0]
  clear hW0
  refine wpIn_rangeFunc_ownG rfl (by omega) (gf := 84) (lb := #[.pointer (some ⟨w1.heap.size + 1, 0, none⟩), .pointer (some ⟨w1.heap.size + 1 + 1, 0, none⟩), .pointer (some ⟨w1.heap.size, 0, none⟩)]) rfl trivial (enters_of Tryd.func84 (by kernel_rfl) rfl)
    (runs_any 3 b r (w1.heap.size + 1) (w1.heap.size + 1 + 1) w1.heap.size ps a n m X W0 (by omega) hM0.mm.cell hM0.mm.map (by omega) (by omega) (by omega) b3.cell b4.cell b2.cell a0 (by omega) h48 hmm hX (fun i hi => hM0.mm.caps _ (pg_k (hX i hi)).2))
    (fun h k => h.trans k)
    (fun W l o o' hl ho _ _ => by have := lt_of_some ho; exact Keep.grown (grownBy_putObj' W l o') (by omega) (by omega) (by omega) (by intro e; cases e; omega) (by intro e; cases e; omega) (by intro e; cases e; omega))
    (Below.refl _ _) (fun _ => rfl)
    (fun (pre : List (Fin m)) W => (Boxed W w.heap.size 22 (.int .u64 (wrL bt v (pre.flatMap fun x : Fin m => plcs a n X x.1)).2) ∧ Mo W b r ps (wrL bt v (pre.flatMap fun x : Fin m => plcs a n X x.1)).1) ∧ W0.heap.size ≤ W.heap.size ∧ But ps w.heap.size w W)
    (fun _ _ _ => False)
    (fun s A B row hh hg hr => ⟨⟨hh.1.1.kept hg (by intro e; have := (hr _ e.symm).1; omega), hh.1.2.grown hg (fun e => by have := (hr _ e).1; omega) (fun e => by have := (hr _ e).1; omega) (fun x hx e => by have := (hr _ e).1; have := lg x hx; omega)⟩, Nat.le_trans hh.2.1 hg.size, hh.2.2.grown hg hh.2.2.size (fun k e => .inl (by have := (hr k e).1; omega))⟩)
    (fun _ _ _ _ _ hs _ _ => hs)
    ⟨⟨b0, hM0⟩, Nat.le_refl _, But.of_below hB0⟩
    (fun z => { tmps := #[.pointer (some ⟨b, 0, none⟩), .int .u64 a, .int .i64 n, .int .u64 v, undef, undef, undef, .pointer (some ⟨w.heap.size, 0, none⟩), .int .i64 0, .int .i64 0, runV a n X z.1, undef, .pointer (some ⟨b, 0, none⟩), .int .u64 a, .int .i64 n, .int .i64 0, .int .i64 0, .bool false, undef, .pointer (some ⟨b, 0, none⟩), .int .u64 a, .int .i64 n, .func (.func 84) #[] #[.pointer (some ⟨w1.heap.size + 1, 0, none⟩), .pointer (some ⟨w1.heap.size + 1 + 1, 0, none⟩), .pointer (some ⟨w1.heap.size, 0, none⟩)], runV a n X z.1, undef, undef, undef, undef, undef, undef, undef, undef, undef, undef, undef, undef, undef], defers := [] }) ?assign ?body ?done ?stop
  case assign =>
    intro l z W K hK
    dsimp only [pieceOf, runV] at hK ⊢
    gi_wp2
    exact hK
  case body =>
    rintro l pre z W ⟨⟨e1, e2⟩, hsz, hB⟩ hlt
    have hzm := (pg_k (hX z.1 z.2)).2
    have hL4 := (pL_le a0 ((hmm z.1).1 z.2)).2
    have HP : Hid (plcs a n X z.1 = (List.range (pL a n z.1)).map fun j => ((X z.1).g, pO a z.1 + j)) := rfl
    dsimp only [runV]
    generalize X z.1 = x at *
    generalize x.c - pO a z.1 = c at *
    obtain ⟨xk, xp, g, xc⟩ := x
    dsimp only at HP ⊢
    generalize pO a z.1 = o at *
    generalize pL a n z.1 = L at *
    obtain ⟨l0, hl0⟩ : ∃ l0, (pre.flatMap fun x : Fin m => plcs a n X x.1) = l0 := ⟨_, rfl⟩
    rw [hl0] at e1 e2
    have HL0 : Hid ((pre.flatMap fun x : Fin m => plcs a n X x.1) = l0) := hl0
    have HG : Hid (∀ x ∈ ps, x.g < w.heap.size) := lg
    have lg0 := lg _ hzm
    dsimp only at lg0
    have HZ : Hid (⟨xk, xp, g, xc⟩ ∈ ps) := hzm
    have HV : Hid (∀ l, 0 ≤ (wrL bt v l).2 ∧ (wrL bt v l).2 < 18446744073709551616) := fun l => wrL_bound bt v v0 v1 _ l rfl
    clear hl0 lg hzm
    gi_wp2
    gi_loopw [26] (fun x wr => ∃ j : Nat, j ≤ L ∧ x = .int .i64 j ∧ Sv w W0 W b r w1.heap.size ps (wrL bt v (l0 ++ (List.range j).map fun j => (g, o + j))) wr) (fun x _ => L - (intOf x).toNat)
    case atStart => exact ⟨0, Nat.zero_le _, rfl, by simpa using (⟨e1, e2, hB, KeepsFrom.refl _ _, ⟨rfl, rfl, rfl, Nat.le_refl _⟩⟩ : Sv w W0 W b r w1.heap.size ps (wrL bt v l0) W)⟩
    case round =>
      obtain ⟨j, hj, rfl, hst⟩ := hrel
      by_cases hjl : j < L
      · have hc1 := hst.box.cell
        have hf1 := hst.box.frozen
        have hc2 := hst.mo.mm.data _ HZ.out (o + j) (by omega)
        have hf2 : wr.frozen? ⟨g, o + j, none⟩ = false := by obtain ⟨cur, hc⟩ := hst.mo.own _ HZ.out; simp [World.frozen?, hc]
        have HS : Hid (Sv w W0 W b r w1.heap.size ps (wrL bt v (l0 ++ (List.range j).map fun j => (g, o + j))) wr) := hst
        have hv2 := HV.out (l0 ++ (List.range j).map fun j => (g, o + j))
        have HN : Hid (wrL bt v (l0 ++ (List.range (j + 1)).map fun j => (g, o + j)) = wrS (wrL bt v (l0 ++ (List.range j).map fun j => (g, o + j))) (g, o + j)) := by
          have t := wrL_snoc bt v (l0 ++ (List.range j).map fun j => (g, o + j)) (g, o + j)
          rw [List.append_assoc] at t
          have e : (List.range (j + 1)).map (fun j => (g, o + j)) = (List.range j).map (fun j => (g, o + j)) ++ [(g, o + j)] := by rw [List.range_succ, List.map_append, List.map_singleton]
          rw [← e] at t
          exact t
        generalize wrL bt v (l0 ++ (List.range j).map fun j => (g, o + j)) = s0 at *
        obtain ⟨bt0, u⟩ := s0
        dsimp only at hc1 hc2 hv2
        clear hst
        gi_wp2
        go_roundw
        case rel =>
          refine ⟨j + 1, by omega, rfl, ?_⟩
          rw [HN.out]
          exact (HS.out.put HZ.out (by omega) rfl (by omega) l2 l1 HG.out (by omega) (by omega) hsz).setv rfl l2 l1 HG.out (by omega) (by omega) hsz
        case measure => simp [intOf]; omega
      · obtain rfl : j = L := by omega
        have HR : Hid (Sv w W0 W b r w1.heap.size ps (wrL bt v (l0 ++ (List.range j).map fun j => (g, o + j))) wr) := hst
        clear hst
        gi_wp2
        refine ⟨HR.out.keeps, HR.out.keep, ⟨?_, ?_⟩, Nat.le_trans hsz HR.out.keeps.size, HR.out.but⟩
        · rw [List.flatMap_append, HL0.out, List.flatMap_singleton, HP.out]; exact HR.out.box
        · rw [List.flatMap_append, HL0.out, List.flatMap_singleton, HP.out]; exact HR.out.mo
  case done =>
    rintro D ys W hD hS ⟨⟨e1, e2⟩, hsz, hB⟩ hK
    subst hS
    have hc := e1.cell
    gi_wp2
    refine ⟨by simp, .inl ⟨_, _, rfl, run_takeDeferred hK, ?_⟩⟩
    have hg := grownBy_putObj' W D (.deferred none)
    exact ⟨_, results_tmp rfl _ _ _, rfl, hB.grown hg hB.size (fun k e => .inl (by have := Option.some.inj e; omega)), e2.grown hg (fun e => by have := Option.some.inj e; omega) (fun e => by have := Option.some.inj e; omega) (fun x hx e => by have := lg x hx; have := Option.some.inj e; omega)⟩
  case stop =>
    rintro D c pre W _ _ h _
    exact h.elim
end
section
open Go.RowKit Go.Shelf
attribute [local go_sem] Oper.semAt_some
set_option maxHeartbeats 1000000 in
theorem store_err (b r : Nat) (ps : List Pgd) (bt : Nat → Nat → Int) (a v : Int) (n : Nat) (w : World) (h : Mo w b r ps bt) (a0 : 0 ≤ a) (hn : isN n) (h48 : a + n ≤ 281474976710656) (hu : ¬ useE ps a n 2 = 0) : Calls Tryd.prog 76 #[.pointer (some ⟨b, 0, none⟩), .int .u64 a, .int .i64 n, .int .u64 v] w fun e w' => e = .returned (.int .i64 (useE ps a n 2)) ∧ Below w.heap.size w w' := by
  have HB : Hid (Below w.heap.size w (w.alloc (.cells #[.int .u64 v] 22))) := (Below.refl _ w).alloc (Nat.le_refl _) _
  have HU : Hid (Calls Tryd.prog 55 #[.pointer (some ⟨b, 0, none⟩), .int .u64 a, .int .i64 n, .int .i64 2] (w.alloc (.cells #[.int .u64 v] 22)) fun e w' => e = .returned (.int .i64 (useE ps a n 2)) ∧ Below (w.alloc (.cells #[.int .u64 v] 22)).heap.size (w.alloc (.cells #[.int .u64 v] 22)) w') := number_any b r ps bt a n 2 (w.alloc (.cells #[.int .u64 v] 22)) (h.mm.below HB.out) a0 hn h48
  generalize useE ps a n 2 = res at *
  clear h
  go_enter Tryd.func76, Tryd.ntmps76
  go_wp2_with fail
  refine HU.out.mono ?_
  rintro e w1 ⟨rfl, hb⟩
  have HB1 : Hid (Below w.heap.size w w1) := HB.out.trans (hb.mono (by simp))
  clear hb
  go_wp2
  go_ret
  exact ⟨rfl, HB1.out⟩
/-- The places of n bytes. -/
def plc (ps : List Pgd) (a : Int) (n : Nat) : List (Nat × Nat) := (List.range n).map fun (j : Nat) => (((pg ps (bs (a + (j : Int)))).getD noP).g, (a + (j : Int) - bs (a + (j : Int))).toNat)
theorem plc_add (ps : List Pgd) (a : Int) (n m : Nat) : plc ps a (n + m) = plc ps a n ++ plc ps (a + n) m := by
  unfold plc
  rw [List.range_add, List.map_append, List.map_map]
  congr 1
  apply List.map_congr_left
  intro j _
  simp only [Function.comp]
  rw [show a + ((n + j : Nat) : Int) = a + n + j by omega]
theorem pieces_plc {ps : List Pgd} {a : Int} {n : Nat} (a0 : 0 ≤ a) (n0 : 1 ≤ n) (n1 : n ≤ 8) : ((List.finRange (pM a n)).flatMap fun x => plcs a n (pgX ps a) x.1) = plc ps a n := by
  obtain ⟨f0, f1, f2, f3⟩ := bs_facts a0
  have hp : ∀ i, pl a i < a + n → plcs a n (pgX ps a) i = plc ps (pl a i) (pL a n i) := by
    intro i h
    obtain ⟨q, o, L, k1, k2, k3, k4, k5, k6, k7, k8, k9, k10, k11⟩ := p_facts (n := n) (i := i) a0 h
    unfold plcs plc
    apply List.map_congr_left
    intro j hj
    rw [List.mem_range] at hj
    have e : bs (pl a i + (j : Int)) = q := by unfold bs; omega
    unfold pgX
    rw [e, k1, k3, k2]
    congr 1
    omega
  have e0 : pl a 0 = a := by unfold pl pB; simp only [Int.natCast_zero]; omega
  by_cases h : a + n ≤ bs a + 4096
  · have em : pM a n = 1 := by unfold pM; rw [if_pos h]
    rw [em]
    simp only [List.finRange_succ, List.finRange_zero, List.map_nil, List.flatMap_cons, List.flatMap_nil, List.append_nil]
    rw [show ((0 : Fin 1) : Nat) = 0 from rfl, hp 0 (by omega), e0]
    congr 1
    unfold pL pB
    rw [e0]
    omega
  · have em : pM a n = 2 := by unfold pM; rw [if_neg h]
    rw [em]
    have e1 : pl a 1 = bs a + 4096 := by unfold pl pB; simp only [Int.natCast_one]; omega
    simp only [List.finRange_succ, List.finRange_zero, List.map_nil, List.map_cons, List.flatMap_cons, List.flatMap_nil, List.append_nil]
    rw [show ((0 : Fin 2) : Nat) = 0 from rfl, show ((Fin.succ 0 : Fin 2) : Nat) = 1 from rfl, hp 0 (by omega), hp 1 (by omega), e0, e1]
    have l0 : pL a n 0 = (bs a + 4096 - a).toNat := by unfold pL pB; rw [e0]; omega
    have l1 : pL a n 1 = (a + n - bs a - 4096).toNat := by unfold pL pB; rw [e1]; omega
    rw [l0, l1]
    have t := plc_add ps a (bs a + 4096 - a).toNat (a + n - bs a - 4096).toNat
    rw [show (bs a + 4096 - a).toNat + (a + n - bs a - 4096).toNat = n by omega, show a + ((bs a + 4096 - a).toNat : Int) = bs a + 4096 by omega] at t
    exact t.symm
/-- The bytes behind a Store. -/
def stB (ps : List Pgd) (bt : Nat → Nat → Int) (a : Int) (n : Nat) (v : Int) : Nat → Nat → Int := if useE ps a n 2 = 0 then (wrL bt v (plc ps a n)).1 else bt
theorem store_any (b r : Nat) (ps : List Pgd) (bt : Nat → Nat → Int) (a v : Int) (n : Nat) (w : World) (h : Mo w b r ps bt) (a0 : 0 ≤ a) (hn : isN n) (h48 : a + n ≤ 281474976710656) (v0 : 0 ≤ v) (v1 : v < 18446744073709551616) : Calls Tryd.prog 76 #[.pointer (some ⟨b, 0, none⟩), .int .u64 a, .int .i64 n, .int .u64 v] w fun e w' => e = .returned (.int .i64 (useE ps a n 2)) ∧ But ps w.heap.size w w' ∧ Mo w' b r ps (stB ps bt a n v) := by
  have n1 : 1 ≤ n ∧ n ≤ 8 := by unfold isN at hn; omega
  unfold stB
  by_cases hu : useE ps a n 2 = 0
  · rw [if_pos hu, hu]
    have t := store_ok b r ps bt a v n (pM a n) (pgX ps a) w h a0 hn h48 v0 v1 hu (pM_iff a0 (by omega) (by omega)) (useE_zero hu)
    rw [pieces_plc a0 n1.1 n1.2] at t
    exact t
  · rw [if_neg hu]
    exact (store_err b r ps bt a v n w h a0 hn h48 hu).mono fun e w' ⟨h1, h2⟩ => ⟨h1, But.of_below h2, h.below h2⟩
def gOf (ps : List Pgd) (p : Int) : Nat := ((pg ps (bs p)).getD noP).g
def oOf (p : Int) : Nat := (p - bs p).toNat
theorem byt_eq (ps : List Pgd) (bt : Nat → Nat → Int) (p : Int) : byt ps bt p = bt (gOf ps p) (oOf p) := rfl
theorem place_inj {ps : List Pgd} (hap : ∀ x ∈ ps, ∀ y ∈ ps, x.g = y.g → x = y) {p p' : Int} (h : pg ps (bs p) ≠ none) (h' : pg ps (bs p') ≠ none) (h1 : gOf ps p = gOf ps p') (h2 : oOf p = oOf p') : p = p' := by
  obtain ⟨x, hx⟩ := Option.ne_none_iff_exists'.1 h
  obtain ⟨y, hy⟩ := Option.ne_none_iff_exists'.1 h'
  unfold gOf at h1
  rw [hx, hy] at h1
  have e := hap x (pg_k hx).2 y (pg_k hy).2 h1
  have k1 := (pg_k hx).1
  have k2 := (pg_k hy).1
  rw [e] at k1
  unfold oOf at h2
  unfold bs at *
  omega
theorem byt_setB {ps : List Pgd} (hap : ∀ x ∈ ps, ∀ y ∈ ps, x.g = y.g → x = y) (bt : Nat → Nat → Int) {p p' : Int} (h : pg ps (bs p) ≠ none) (h' : pg ps (bs p') ≠ none) (y : Int) : byt ps (setB bt (gOf ps p') (oOf p') y) p = if p = p' then y else byt ps bt p := by
  rw [byt_eq, byt_eq]
  unfold setB
  by_cases e : p = p'
  · subst e; rw [if_pos ⟨rfl, rfl⟩, if_pos rfl]
  · rw [if_neg (fun k => e (place_inj hap h h' k.1 k.2)), if_neg e]
theorem plc_succ (ps : List Pgd) (a : Int) (n : Nat) : plc ps a (n + 1) = plc ps a n ++ [(gOf ps (a + n), oOf (a + n))] := by
  unfold plc
  rw [List.range_succ, List.map_append, List.map_singleton]
  rfl
theorem byt_wr {ps : List Pgd} (hap : ∀ x ∈ ps, ∀ y ∈ ps, x.g = y.g → x = y) (bt : Nat → Nat → Int) (a v : Int) (v0 : 0 ≤ v) (p : Int) (hp : pg ps (bs p) ≠ none) : ∀ n : Nat, (∀ j : Nat, j < n → pg ps (bs (a + j)) ≠ none) → (wrL bt v (plc ps a n)).2 = v / 256 ^ n ∧ byt ps (wrL bt v (plc ps a n)).1 p = if a ≤ p ∧ p < a + n then (v / 256 ^ (p - a).toNat) % 256 else byt ps bt p
  | 0, _ => by
    refine ⟨by simp [plc, wrL], ?_⟩
    rw [if_neg (by omega)]
    simp [plc, wrL]
  | n + 1, hall => by
    obtain ⟨i1, i2⟩ := byt_wr hap bt a v v0 p hp n (fun j hj => hall j (by omega))
    rw [plc_succ, wrL_snoc]
    unfold wrS
    simp only []
    refine ⟨?_, ?_⟩
    · rw [i1, Int.pow_succ, Int.ediv_ediv_of_nonneg (by exact Int.le_of_lt (Int.pow_pos (by decide)))]
    · rw [byt_setB hap _ hp (hall n (by omega)), i1, i2]
      by_cases e : p = a + n
      · subst e
        rw [if_pos rfl, if_pos (by omega), show (a + (n : Int) - a).toNat = n by omega]
      · rw [if_neg e]
        by_cases h1 : a ≤ p ∧ p < a + n
        · rw [if_pos h1, if_pos (by omega)]
        · rw [if_neg h1, if_neg (by omega)]
theorem use_all {ps : List Pgd} {a : Int} {n : Nat} {perm : Int} (a0 : 0 ≤ a) (n1 : n ≤ 8) (h : useE ps a n perm = 0) (j : Nat) (hj : j < n) : pg ps (bs (a + j)) ≠ none := by
  obtain ⟨f0, f1, f2, f3⟩ := bs_facts a0
  have z := useE_zero h
  unfold pM at z
  by_cases hc : a + (n : Int) ≤ bs a + 4096
  · rw [if_pos hc] at z
    have t := z 0 (by omega)
    have e : bs (a + j) = pB a 0 := by unfold pB; unfold bs at *; omega
    rw [e, t]; simp
  · rw [if_neg hc] at z
    by_cases hl : a + (j : Int) < bs a + 4096
    · have t := z 0 (by omega)
      have e : bs (a + j) = pB a 0 := by unfold pB; unfold bs at *; omega
      rw [e, t]; simp
    · have t := z 1 (by omega)
      have e : bs (a + j) = pB a 1 := by unfold pB; unfold bs at *; omega
      rw [e, t]; simp
theorem byt_st {ps : List Pgd} (hap : ∀ x ∈ ps, ∀ y ∈ ps, x.g = y.g → x = y) (bt : Nat → Nat → Int) (a v : Int) (n : Nat) (a0 : 0 ≤ a) (n1 : n ≤ 8) (v0 : 0 ≤ v) (p : Int) (hp : pg ps (bs p) ≠ none) : byt ps (stB ps bt a n v) p = if useE ps a n 2 = 0 ∧ a ≤ p ∧ p < a + n then (v / 256 ^ (p - a).toNat) % 256 else byt ps bt p := by
  unfold stB
  by_cases hu : useE ps a n 2 = 0
  · rw [if_pos hu, (byt_wr hap bt a v v0 p hp n (use_all a0 n1 hu)).2]
    simp only [hu, true_and]
  · rw [if_neg hu, if_neg (fun k => hu k.1)]
/-- Two memories with the same Bases and Perms. -/
def Alike (ps qs : List Pgd) : Prop := ∀ k, (∀ x, pg ps k = some x → ∃ y, pg qs k = some y ∧ y.p = x.p) ∧ (pg ps k = none → pg qs k = none)
theorem use_alike {ps qs : List Pgd} (h : Alike ps qs) (a n perm : Int) : useE ps a n perm = useE qs a n perm := by
  unfold useE
  cases h1 : pg ps (bs a) with
  | none => rw [(h _).2 h1]
  | some x =>
    obtain ⟨y, hy, hp⟩ := (h _).1 x h1
    rw [hy]
    have E1 : badP y perm = badP x perm := by unfold badP; rw [hp]
    cases h2 : pg ps (bs a + 4096) with
    | none => rw [(h _).2 h2]; simp only [e1, E1]
    | some x2 =>
      obtain ⟨y2, hy2, hp2⟩ := (h _).1 x2 h2
      rw [hy2]
      have E2 : badP y2 perm = badP x2 perm := by unfold badP; rw [hp2]
      simp only [e1, e2, E1, E2]
theorem Fr.apart' {W : World} {b r i : Nat} {k p : Nat → Int} {Y : Nat → Nat → Int} {base : Nat} {ps : List Pgd} (h : Fr W b r i k p Y base ps) : ∀ x ∈ ps, ∀ y ∈ ps, x.g = y.g → x = y := by
  intro x hx y hy e
  obtain ⟨s, hs, rfl⟩ := List.getElem_of_mem hx
  obtain ⟨t, ht, rfl⟩ := List.getElem_of_mem hy
  have P := List.pairwise_iff_getElem.1 h.apart
  rcases Nat.lt_trichotomy s t with hl | rfl | hl
  · have := P s t hs ht hl; omega
  · rfl
  · have := P t s ht hs hl; omega
theorem Fr.mo {W : World} {b r i : Nat} {k p : Nat → Int} {Y : Nat → Nat → Int} {base : Nat} {ps : List Pgd} (h : Fr W b r i k p Y base ps) (hY : ∀ i j, 0 ≤ Y i j ∧ Y i j < 256) : Mo W b r ps (btOf W) := by
  refine ⟨h.mm hY, fun x hx => ?_, h.apart'⟩
  obtain ⟨t, ht, rfl⟩ := List.getElem_of_mem hx
  obtain ⟨cur, hc, _⟩ := (h.data t _ (List.getElem?_eq_getElem ht)).1
  exact ⟨cur, hc⟩
theorem Fr.pg_at {W : World} {b r i : Nat} {k p : Nat → Int} {Y : Nat → Nat → Int} {base : Nat} {ps : List Pgd} (h : Fr W b r i k p Y base ps) {t : Nat} (ht : t < ps.length) : pg ps (k t) = some ps[t] := by
  have e := (h.at_ t _ (List.getElem?_eq_getElem ht)).1
  cases hp : pg ps (k t) with
  | none =>
    unfold pg at hp
    rw [List.find?_eq_none] at hp
    exact absurd (by simp [e]) (hp ps[t] (List.getElem_mem ht))
  | some y =>
    obtain ⟨e2, hm⟩ := pg_k hp
    obtain ⟨s, hs, rfl⟩ := List.getElem_of_mem hm
    have P := List.pairwise_iff_getElem.1 h.up
    rcases Nat.lt_trichotomy s t with hl | rfl | hl
    · have := P s t hs ht hl; omega
    · rfl
    · have := P t s ht hs hl; omega
theorem Fr.pg_idx {W : World} {b r i : Nat} {k p : Nat → Int} {Y : Nat → Nat → Int} {base : Nat} {ps : List Pgd} (h : Fr W b r i k p Y base ps) {q : Int} {x : Pgd} (hx : pg ps q = some x) : ∃ t, ∃ ht : t < ps.length, ps[t] = x ∧ k t = q := by
  obtain ⟨e, hm⟩ := pg_k hx
  obtain ⟨t, ht, rfl⟩ := List.getElem_of_mem hm
  exact ⟨t, ht, rfl, by rw [← e, (h.at_ t _ (List.getElem?_eq_getElem ht)).1]⟩
theorem Fr.alike {W W' : World} {b r b' r' i : Nat} {k p : Nat → Int} {Y : Nat → Nat → Int} {base base' : Nat} {ps qs : List Pgd} (h : Fr W b r i k p Y base ps) (h' : Fr W' b' r' i k p Y base' qs) : Alike ps qs := by
  have l := h.len
  have l' := h'.len
  intro q
  refine ⟨fun x hx => ?_, fun hn => ?_⟩
  · obtain ⟨t, ht, rfl, rfl⟩ := h.pg_idx hx
    exact ⟨_, h'.pg_at (t := t) (by omega), by rw [(h'.at_ t _ (List.getElem?_eq_getElem (by omega))).2.1, (h.at_ t _ (List.getElem?_eq_getElem ht)).2.1]⟩
  · cases hq : pg qs q with
    | none => rfl
    | some y =>
      obtain ⟨t, ht, rfl, rfl⟩ := h'.pg_idx hq
      rw [h.pg_at (t := t) (by omega)] at hn
      cases hn
theorem Fr.byts {W W' : World} {b r b' r' i : Nat} {k p : Nat → Int} {Y : Nat → Nat → Int} {base base' : Nat} {ps qs : List Pgd} (h : Fr W b r i k p Y base ps) (h' : Fr W' b' r' i k p Y base' qs) (hY : ∀ i j, 0 ≤ Y i j ∧ Y i j < 256) (q : Int) (hq : pg ps (bs q) ≠ none) : byt ps (btOf W) q = byt qs (btOf W') q := by
  have l := h.len
  have l' := h'.len
  obtain ⟨x, hx⟩ := Option.ne_none_iff_exists'.1 hq
  obtain ⟨t, ht, rfl, e⟩ := h.pg_idx hx
  have hy := h'.pg_at (t := t) (by omega)
  rw [e] at hy
  unfold byt
  rw [hx, hy]
  simp only [Option.getD_some]
  have ho : (q - bs q).toNat < 4096 := by unfold bs; omega
  rw [btOf_at ((h.data t _ (List.getElem?_eq_getElem ht)).2 _ ho) (hY _ _), btOf_at ((h'.data t _ (List.getElem?_eq_getElem (by omega))).2 _ ho) (hY _ _)]
/-- Same, from the bytes by their places. -/
theorem same_places {ps qs : List Pgd} {bt ct : Nat → Nat → Int} (h : Alike ps qs) (hk : ∀ x ∈ ps, x.k % 4096 = 0) (hb : ∀ p, pg ps (bs p) ≠ none → byt ps bt p = byt qs ct p) : ∀ k x, pg ps k = some x → ∃ y, pg qs k = some y ∧ y.p = x.p ∧ ∀ j, j < 4096 → bt x.g j = ct y.g j := by
  intro k x hx
  obtain ⟨y, hy, hp⟩ := (h k).1 x hx
  refine ⟨y, hy, hp, fun j hj => ?_⟩
  have h0 := hk x (pg_k hx).2
  rw [(pg_k hx).1] at h0
  have e : bs (k + (j : Int)) = k := by unfold bs; omega
  have t := hb (k + j) (by rw [e, hx]; simp)
  unfold byt at t
  rw [e, hx, hy] at t
  simp only [Option.getD_some] at t
  rw [show (k + (j : Int) - k).toNat = j by omega] at t
  exact t
theorem fromE_al {k p : Nat → Int} {bl : Nat → Nat} : ∀ n, fromE k p bl n = 0 → ∀ i, i < n → k i % 4096 = 0
  | 0, _, _, h => by omega
  | n + 1, h, i, hi => by
    have h0 : fromE k p bl n = 0 := by
      by_cases e : fromE k p bl n = 0
      · exact e
      · rw [fromE, if_neg e] at h; exact absurd h e
    by_cases e : i = n
    · subst e
      rw [fromE, if_pos h0] at h
      unfold stepE at h
      split at h
      · cases h
      · rename_i hb
        unfold badB at hb
        by_cases ha : k i % 4096 = 0
        · exact ha
        · simp [ha] at hb
    · exact fromE_al n h0 i (by omega)
set_option maxHeartbeats 1000000 in
theorem number_odd (v : Value) (a n perm : Int) (w : World) (hn : ¬ (n = 1 ∨ n = 2 ∨ n = 4 ∨ n = 8)) : Calls Tryd.prog 55 #[v, .int .u64 a, .int .i64 n, .int .i64 perm] w fun e w' => e = .returned (.int .i64 1) ∧ w' = w := by
  have n1 : (n == 1) = false := by simp; omega
  have n2 : (n == 2) = false := by simp; omega
  have n4 : (n == 4) = false := by simp; omega
  have n8 : (n == 8) = false := by simp; omega
  go_enter Tryd.func55, Tryd.ntmps55
  go_wp2
  go_ret
  exact ⟨rfl, rfl⟩
set_option maxHeartbeats 1000000 in
theorem load_err (v : Value) (a n x : Int) (w : World) (hx : ¬ x = 0) (h : Calls Tryd.prog 55 #[v, .int .u64 a, .int .i64 n, .int .i64 4] w fun e w' => e = .returned (.int .i64 x) ∧ Below w.heap.size w w') : Calls Tryd.prog 75 #[v, .int .u64 a, .int .i64 n] w fun e w' => e = .returned (.tuple #[.int .u64 0, .int .i64 x]) ∧ Below w.heap.size w w' := by
  have HU : Hid (Calls Tryd.prog 55 #[v, .int .u64 a, .int .i64 n, .int .i64 4] w fun e w' => e = .returned (.int .i64 x) ∧ Below w.heap.size w w') := h
  clear h
  go_enter Tryd.func75, Tryd.ntmps75
  go_wp2_with fail
  refine HU.out.mono ?_
  rintro e w1 ⟨rfl, hb⟩
  have HB : Hid (Below w.heap.size w w1) := hb
  clear hb
  go_wp2
  go_ret2
  exact ⟨rfl, HB.out⟩
/-- What Load tells of any count and place. -/
def lE (ps : List Pgd) (a n : Int) : Int := if n = 1 ∨ n = 2 ∨ n = 4 ∨ n = 8 then (if 281474976710656 ≤ a ∨ 281474976710656 - a < n then 1 else useE ps a n 4) else 1
def lV (ps : List Pgd) (bt : Nat → Nat → Int) (a n : Int) : Int := if lE ps a n = 0 then sumV (byts ps bt a n.toNat) else 0
theorem load_all (b r : Nat) (ps : List Pgd) (bt : Nat → Nat → Int) (a n : Int) (w : World) (h : Mm w b r ps bt) (a0 : 0 ≤ a) (a1 : a < 18446744073709551616) : Calls Tryd.prog 75 #[.pointer (some ⟨b, 0, none⟩), .int .u64 a, .int .i64 n] w fun e w' => e = .returned (.tuple #[.int .u64 (lV ps bt a n), .int .i64 (lE ps a n)]) ∧ Below w.heap.size w w' := by
  unfold lV
  by_cases hn : n = 1 ∨ n = 2 ∨ n = 4 ∨ n = 8
  · obtain ⟨m, rfl⟩ : ∃ m : Nat, n = m := ⟨n.toNat, by omega⟩
    have hm : isN m := by unfold isN; omega
    by_cases hf : 281474976710656 ≤ a ∨ 281474976710656 - a < (m : Int)
    · have e : lE ps a m = 1 := by unfold lE; rw [if_pos hn, if_pos hf]
      rw [e, if_neg (by decide)]
      exact load_err _ a m 1 w (by decide) (number_far _ a 4 m w a0 a1 hm hf)
    · have e : lE ps a m = useE ps a m 4 := by unfold lE; rw [if_pos hn, if_neg hf]
      rw [e]
      have t := load_any b r ps bt a m w h a0 hm (by omega)
      unfold loadV at t
      exact t
  · have e : lE ps a n = 1 := by unfold lE; rw [if_neg hn]
    rw [e, if_neg (by decide)]
    exact load_err _ a n 1 w (by decide) ((number_odd _ a n 4 w hn).mono fun e w' ⟨h1, h2⟩ => ⟨h1, h2 ▸ Below.refl _ _⟩)
set_option maxHeartbeats 1000000 in
theorem store_bad (v : Value) (a n u x : Int) (w : World) (hx : ¬ x = 0) (h : ∀ W, Calls Tryd.prog 55 #[v, .int .u64 a, .int .i64 n, .int .i64 2] W fun e w' => e = .returned (.int .i64 x) ∧ Below W.heap.size W w') : Calls Tryd.prog 76 #[v, .int .u64 a, .int .i64 n, .int .u64 u] w fun e w' => e = .returned (.int .i64 x) ∧ Below w.heap.size w w' := by
  have HU : Hid (∀ W, Calls Tryd.prog 55 #[v, .int .u64 a, .int .i64 n, .int .i64 2] W fun e w' => e = .returned (.int .i64 x) ∧ Below W.heap.size W w') := h
  have HB : Hid (Below w.heap.size w (w.alloc (.cells #[.int .u64 u] 22))) := (Below.refl _ w).alloc (Nat.le_refl _) _
  clear h
  go_enter Tryd.func76, Tryd.ntmps76
  go_wp2_with fail
  refine (HU.out _).mono ?_
  rintro e w1 ⟨rfl, hb⟩
  have HB1 : Hid (Below w.heap.size w w1) := HB.out.trans (hb.mono (by simp))
  clear hb
  go_wp2
  go_ret
  exact ⟨rfl, HB1.out⟩
end
end Go.Proofs.YtnmpbihpoefeoaaDoor

/- A number into whatever pages (Store). -/
import Derived.Test.YtndbkkldfinggabU2
namespace Go.Proofs.Ytndbkkldfinggab
open Go.RowKit Go.Shelf
attribute [local go_sem] Oper.semAt_some
/-- A byte written, the rest of the number behind it. -/
def wrS (s : (Nat → Nat → Int) × Int) (p : Nat × Nat) : (Nat → Nat → Int) × Int := (setB s.1 p.1 p.2 (s.2 % 256), s.2 / 256)
def wrL (bt : Nat → Nat → Int) (v : Int) (l : List (Nat × Nat)) : (Nat → Nat → Int) × Int := l.foldl wrS (bt, v)
theorem wrL_snoc (bt : Nat → Nat → Int) (v : Int) (l : List (Nat × Nat)) (p : Nat × Nat) : wrL bt v (l ++ [p]) = wrS (wrL bt v l) p := by simp [wrL, List.foldl_append]
theorem wrL_bound (bt : Nat → Nat → Int) (v : Int) (h0 : 0 ≤ v) (h1 : v < 18446744073709551616) : ∀ (n : Nat) (l : List (Nat × Nat)), l.length = n → 0 ≤ (wrL bt v l).2 ∧ (wrL bt v l).2 < 18446744073709551616
  | 0, l, hn => by rw [List.length_eq_zero_iff.1 hn]; exact ⟨h0, h1⟩
  | n + 1, l, hn => by
    rcases List.eq_nil_or_concat l with rfl | ⟨l, y, rfl⟩
    · cases hn
    · simp only [List.concat_eq_append, List.length_append, List.length_singleton] at hn ⊢
      have := wrL_bound bt v h0 h1 n l (by omega)
      rw [wrL_snoc]
      unfold wrS
      simp only []
      omega
/-- The places of a piece. -/
def plcs (a n : Int) (X : Nat → Pgd) (i : Nat) : List (Nat × Nat) := (List.range (pL a n i)).map fun j => ((X i).g, pO a i + j)
structure Sv (w W0 W : World) (b r m : Nat) (ps : List Pgd) (s : (Nat → Nat → Int) × Int) (W' : World) : Prop where
  box : Boxed W' w.heap.size 23 (.int .u64 s.2)
  mo : Mo W' b r ps s.1
  but : But ps w.heap.size w W'
  keeps : KeepsFrom W0.heap.size W W'
  keep : Keep b r m W W'
theorem Sv.setv {w W0 W W' : World} {b r m : Nat} {ps : List Pgd} {bt : Nat → Nat → Int} {v x v' : Int} (h : Sv w W0 W b r m ps (bt, v) W') (hx : x = v') (lb : b < w.heap.size) (lr : r < w.heap.size) (lg : ∀ x ∈ ps, x.g < w.heap.size) (hm : w.heap.size < m) (hm2 : m < W0.heap.size) (hsz : W0.heap.size ≤ W.heap.size) : Sv w W0 W b r m ps (bt, v') (W'.setCell ⟨w.heap.size, 0, none⟩ (.int .u64 x)) := by
  subst hx
  have z := h.keeps.size
  have z2 := h.but.size
  have hg := grown_set W' w.heap.size 0 (.int .u64 x)
  exact ⟨h.box.set _, h.mo.grown hg (by intro e; cases e; omega) (by intro e; cases e; omega) (fun y hy e => by have := lg y hy; have := Option.some.inj e; omega), h.but.grown hg (by omega) (fun k e => .inl (by cases e; omega)), h.keeps.trans (KeepsFrom.of_grownBy hg (fun k e => by cases e; omega)), h.keep.trans (Keep.grown hg (by omega) (by omega) (by omega) (by intro e; cases e; omega) (by intro e; cases e; omega) (by intro e; cases e; omega))⟩
theorem Sv.put {w W0 W W' : World} {b r m : Nat} {ps : List Pgd} {bt : Nat → Nat → Int} {v y y' : Int} {x : Pgd} {j : Nat} (h : Sv w W0 W b r m ps (bt, v) W') (hx : x ∈ ps) (hj : j < 4096) (hy : y = y') (hb : 0 ≤ y' ∧ y' < 256) (lb : b < w.heap.size) (lr : r < w.heap.size) (lg : ∀ x ∈ ps, x.g < w.heap.size) (hm : w.heap.size < m) (hm2 : m < W0.heap.size) (hsz : W0.heap.size ≤ W.heap.size) : Sv w W0 W b r m ps (setB bt x.g j y', v) (W'.setCell ⟨x.g, j, none⟩ (.int .u8 y)) := by
  subst hy
  have z := h.keeps.size
  have z2 := h.but.size
  have z3 := lg x hx
  obtain ⟨n1, n2, n3⟩ := h.mo.ne hx
  have hg := grown_set W' x.g j (.int .u8 y)
  exact ⟨h.box.kept hg (by intro e; have := Option.some.inj e; omega), h.mo.put hx hj hb, h.but.grown hg (by omega) (fun k e => .inr ⟨x, hx, (Option.some.inj e).symm⟩), h.keeps.trans (KeepsFrom.of_grownBy hg (fun k e => by have := Option.some.inj e; omega)), h.keep.trans (Keep.grown hg (by omega) (by omega) (by omega) (by intro e; have := Option.some.inj e; omega) (by intro e; have := Option.some.inj e; omega) (by intro e; have := Option.some.inj e; omega))⟩
theorem Mo.below {W W' : World} {b r : Nat} {ps : List Pgd} {bt : Nat → Nat → Int} (h : Mo W b r ps bt) (hb : Below W.heap.size W W') : Mo W' b r ps bt := ⟨h.mm.below hb, fun x hx => by obtain ⟨cur, hc⟩ := h.own x hx; exact ⟨cur, (hb.block x.g (lt_of_some hc)).trans hc⟩, h.apart⟩
set_option maxRecDepth 100000 in
set_option maxHeartbeats 2000000 in
theorem store_ok (b r : Nat) (ps : List Pgd) (bt : Nat → Nat → Int) (a v : Int) (n m : Nat) (X : Nat → Pgd) (w : World) (h : Mo w b r ps bt) (a0 : 0 ≤ a) (hn : isN n) (h48 : a + n ≤ 281474976710656) (v0 : 0 ≤ v) (v1 : v < 18446744073709551616) (hu : useE ps a n 2 = 0) (hmm : ∀ i, i < m ↔ pl a i < a + n) (hX : ∀ i, i < m → pg ps (pB a i) = some (X i)) : Calls Try.prog 17 #[.pointer (some ⟨b, 0, none⟩), .int .u64 a, .int .i64 n, .int .u64 v] w fun e w' => e = .returned (.int .i64 0) ∧ But ps w.heap.size w w' ∧ Mo w' b r ps (wrL bt v ((List.finRange m).flatMap fun x => plcs a n X x.1)).1 := by
  have HH : Hid (Mo w b r ps bt) := h
  have l1 := lt_of_some h.mm.map
  have l2 := lt_of_cell h.mm.cell
  have lg : ∀ x ∈ ps, x.g < w.heap.size := fun x hx => (h.ne hx).2.2
  have HU : Hid (Calls Try.prog 30 #[.pointer (some ⟨b, 0, none⟩), .int .u64 a, .int .i64 n, .int .i64 2] (w.alloc (.cells #[.int .u64 v] 23)) fun e w' => e = .returned (.int .i64 0) ∧ Below (w.heap.size + 1) (w.alloc (.cells #[.int .u64 v] 23)) w') := by
    have t := number_any b r ps bt a n 2 (w.alloc (.cells #[.int .u64 v] 23)) (h.mm.below ((Below.refl _ w).alloc (Nat.le_refl _) _)) a0 hn h48
    rw [hu] at t
    simp at t
    exact t
  clear h
  refine (callsIn_wide (n := 4)).1 ?_
  refine callsIn_of_wp_marks Try.func17 rfl trivial ?_ rfl
  simp only [Try.ntmps17, List.size_toArray, List.length_cons, List.length_nil, Nat.reduceAdd, Nat.reduceSub, Array.replicate_succ, Array.replicate_zero, List.push_toArray, List.append_toArray, List.nil_append, List.cons_append]
  gi_wp2_with (refine ⟨trivial, ?_⟩; first | (gi_at_call 30; refine (callsIn_wide.2 HU.out).mono ?_; rintro e w1 ⟨rfl, hb1⟩) | (gi_at_call 37; refine (callsIn_wide.2 (runs29 b a n _)).mono ?_; rintro e w' ⟨rfl, rfl⟩))
  obtain ⟨W0, hW0⟩ : ∃ W0, (((w1.alloc (.cells #[.pointer (some ⟨b, 0, none⟩)] 26)).alloc (.cells #[.int .u64 a] 23)).alloc (.cells #[.int .i64 n] 3)) = W0 := ⟨_, rfl⟩
  have hs1 : w.heap.size + 1 ≤ w1.heap.size := by have := hb1.size; simpa using this
  have bv : Boxed w1 w.heap.size 23 (.int .u64 v) := (hb1.block w.heap.size (by omega)).trans (Boxed.new w 23 (.int .u64 v))
  have b0 : Boxed W0 w.heap.size 23 (.int .u64 v) := by rw [← hW0]; exact ((bv.alloc _).alloc _).alloc _
  have b2 : Boxed W0 w1.heap.size 26 (.pointer (some ⟨b, 0, none⟩)) := by rw [← hW0]; exact ((Boxed.new w1 26 (.pointer (some ⟨b, 0, none⟩))).alloc _).alloc _
  have b3 : Boxed W0 (w1.heap.size + 1) 23 (.int .u64 a) := by rw [← hW0]; have := ((Boxed.new (w1.alloc (.cells #[.pointer (some ⟨b, 0, none⟩)] 26)) 23 (.int .u64 a)).alloc (.cells #[.int .i64 n] 3)); simpa using this
  have b4 : Boxed W0 (w1.heap.size + 1 + 1) 3 (.int .i64 n) := by rw [← hW0]; have := (Boxed.new ((w1.alloc (.cells #[.pointer (some ⟨b, 0, none⟩)] 26)).alloc (.cells #[.int .u64 a] 23)) 3 (.int .i64 n)); simpa using this
  have hs : W0.heap.size = w1.heap.size + 3 := by rw [← hW0]; simp
  have hB1 : Below w1.heap.size w1 W0 := by rw [← hW0]; exact (((Below.refl _ w1).alloc (Nat.le_refl _) _).alloc (by simp) _).alloc (by simp; omega) _
  have hB0 : Below w.heap.size w W0 := (((Below.refl _ w).alloc (Nat.le_refl _) (.cells #[.int .u64 v] 23)).trans (hb1.mono (by omega))).trans (hB1.mono (by omega))
  have hM0 : Mo W0 b r ps bt := HH.out.below hB0
  clear hb1 hB1 bv
  rw [hW0]
  clear hW0
  refine wpIn_rangeFunc_ownG rfl (by omega) (gf := 53) (lb := #[.pointer (some ⟨w1.heap.size + 1, 0, none⟩), .pointer (some ⟨w1.heap.size + 1 + 1, 0, none⟩), .pointer (some ⟨w1.heap.size, 0, none⟩)]) rfl trivial (enters_of Try.func53 (by kernel_rfl) rfl)
    (runs_any 3 b r (w1.heap.size + 1) (w1.heap.size + 1 + 1) w1.heap.size ps a n m X W0 (by omega) hM0.mm.cell hM0.mm.map (by omega) (by omega) (by omega) b3.cell b4.cell b2.cell a0 (by omega) h48 hmm hX (fun i hi => hM0.mm.caps _ (pg_k (hX i hi)).2))
    (fun h k => h.trans k)
    (fun W l o o' hl ho _ _ => by have := lt_of_some ho; exact Keep.grown (grownBy_putObj' W l o') (by omega) (by omega) (by omega) (by intro e; cases e; omega) (by intro e; cases e; omega) (by intro e; cases e; omega))
    (Below.refl _ _) (fun _ => rfl)
    (fun (pre : List (Fin m)) W => (Boxed W w.heap.size 23 (.int .u64 (wrL bt v (pre.flatMap fun x : Fin m => plcs a n X x.1)).2) ∧ Mo W b r ps (wrL bt v (pre.flatMap fun x : Fin m => plcs a n X x.1)).1) ∧ W0.heap.size ≤ W.heap.size ∧ But ps w.heap.size w W)
    (fun _ _ _ => False)
    (fun s A B row hh hg hr => ⟨⟨hh.1.1.kept hg (by intro e; have := (hr _ e.symm).1; omega), hh.1.2.grown hg (fun e => by have := (hr _ e).1; omega) (fun e => by have := (hr _ e).1; omega) (fun x hx e => by have := (hr _ e).1; have := lg x hx; omega)⟩, Nat.le_trans hh.2.1 hg.size, hh.2.2.grown hg hh.2.2.size (fun k e => .inl (by have := (hr k e).1; omega))⟩)
    (fun _ _ _ _ _ hs _ _ => hs)
    ⟨⟨b0, hM0⟩, Nat.le_refl _, But.of_below hB0⟩
    (fun z => { tmps := #[.pointer (some ⟨b, 0, none⟩), .int .u64 a, .int .i64 n, .int .u64 v, undef, undef, undef, .pointer (some ⟨w.heap.size, 0, none⟩), .int .i64 0, .int .i64 0, runV a n X z.1, undef, .pointer (some ⟨b, 0, none⟩), .int .u64 a, .int .i64 n, .int .i64 0, .int .i64 0, .bool false, undef, .pointer (some ⟨b, 0, none⟩), .int .u64 a, .int .i64 n, .func (.func 53) #[] #[.pointer (some ⟨w1.heap.size + 1, 0, none⟩), .pointer (some ⟨w1.heap.size + 1 + 1, 0, none⟩), .pointer (some ⟨w1.heap.size, 0, none⟩)], runV a n X z.1, undef, undef, undef, undef, undef, undef, undef, undef, undef, undef, undef, undef, undef], defers := [] }) ?assign ?body ?done ?stop
  case assign =>
    intro l z W K hK
    dsimp only [pieceOf, runV] at hK ⊢
    gi_wp2
    exact hK
  case body =>
    rintro l pre z W ⟨⟨e1, e2⟩, hsz, hB⟩ hlt
    have hzm := (pg_k (hX z.1 z.2)).2
    have hL4 := (pL_le a0 ((hmm z.1).1 z.2)).2
    have HP : Hid (plcs a n X z.1 = (List.range (pL a n z.1)).map fun j => ((X z.1).g, pO a z.1 + j)) := rfl
    dsimp only [runV]
    generalize X z.1 = x at *
    generalize x.c - pO a z.1 = c at *
    obtain ⟨xk, xp, g, xc⟩ := x
    dsimp only at HP ⊢
    generalize pO a z.1 = o at *
    generalize pL a n z.1 = L at *
    obtain ⟨l0, hl0⟩ : ∃ l0, (pre.flatMap fun x : Fin m => plcs a n X x.1) = l0 := ⟨_, rfl⟩
    rw [hl0] at e1 e2
    have HL0 : Hid ((pre.flatMap fun x : Fin m => plcs a n X x.1) = l0) := hl0
    have HG : Hid (∀ x ∈ ps, x.g < w.heap.size) := lg
    have lg0 := lg _ hzm
    dsimp only at lg0
    have HZ : Hid (⟨xk, xp, g, xc⟩ ∈ ps) := hzm
    have HV : Hid (∀ l, 0 ≤ (wrL bt v l).2 ∧ (wrL bt v l).2 < 18446744073709551616) := fun l => wrL_bound bt v v0 v1 _ l rfl
    clear hl0 lg hzm
    gi_wp2
    gi_loopw [26] (fun x wr => ∃ j : Nat, j ≤ L ∧ x = .int .i64 j ∧ Sv w W0 W b r w1.heap.size ps (wrL bt v (l0 ++ (List.range j).map fun j => (g, o + j))) wr) (fun x _ => L - (intOf x).toNat)
    case atStart => exact ⟨0, Nat.zero_le _, rfl, by simpa using (⟨e1, e2, hB, KeepsFrom.refl _ _, ⟨rfl, rfl, rfl, Nat.le_refl _⟩⟩ : Sv w W0 W b r w1.heap.size ps (wrL bt v l0) W)⟩
    case round =>
      obtain ⟨j, hj, rfl, hst⟩ := hrel
      by_cases hjl : j < L
      · have hc1 := hst.box.cell
        have hf1 := hst.box.frozen
        have hc2 := hst.mo.mm.data _ HZ.out (o + j) (by omega)
        have hf2 : wr.frozen? ⟨g, o + j, none⟩ = false := by obtain ⟨cur, hc⟩ := hst.mo.own _ HZ.out; simp [World.frozen?, hc]
        have HS : Hid (Sv w W0 W b r w1.heap.size ps (wrL bt v (l0 ++ (List.range j).map fun j => (g, o + j))) wr) := hst
        have hv2 := HV.out (l0 ++ (List.range j).map fun j => (g, o + j))
        have HN : Hid (wrL bt v (l0 ++ (List.range (j + 1)).map fun j => (g, o + j)) = wrS (wrL bt v (l0 ++ (List.range j).map fun j => (g, o + j))) (g, o + j)) := by
          have t := wrL_snoc bt v (l0 ++ (List.range j).map fun j => (g, o + j)) (g, o + j)
          rw [List.append_assoc] at t
          have e : (List.range (j + 1)).map (fun j => (g, o + j)) = (List.range j).map (fun j => (g, o + j)) ++ [(g, o + j)] := by rw [List.range_succ, List.map_append, List.map_singleton]
          rw [← e] at t
          exact t
        generalize wrL bt v (l0 ++ (List.range j).map fun j => (g, o + j)) = s0 at *
        obtain ⟨bt0, u⟩ := s0
        dsimp only at hc1 hc2 hv2
        clear hst
        gi_wp2
        go_roundw
        case rel =>
          refine ⟨j + 1, by omega, rfl, ?_⟩
          rw [HN.out]
          exact (HS.out.put HZ.out (by omega) rfl (by omega) l2 l1 HG.out (by omega) (by omega) hsz).setv rfl l2 l1 HG.out (by omega) (by omega) hsz
        case measure => simp [intOf]; omega
      · obtain rfl : j = L := by omega
        have HR : Hid (Sv w W0 W b r w1.heap.size ps (wrL bt v (l0 ++ (List.range j).map fun j => (g, o + j))) wr) := hst
        clear hst
        gi_wp2
        refine ⟨HR.out.keeps, HR.out.keep, ⟨?_, ?_⟩, Nat.le_trans hsz HR.out.keeps.size, HR.out.but⟩
        · rw [List.flatMap_append, HL0.out, List.flatMap_singleton, HP.out]; exact HR.out.box
        · rw [List.flatMap_append, HL0.out, List.flatMap_singleton, HP.out]; exact HR.out.mo
  case done =>
    rintro D ys W hD hS ⟨⟨e1, e2⟩, hsz, hB⟩ hK
    subst hS
    have hc := e1.cell
    gi_wp2
    refine ⟨by simp, .inl ⟨_, _, rfl, run_takeDeferred hK, ?_⟩⟩
    have hg := grownBy_putObj' W D (.deferred none)
    exact ⟨_, results_tmp rfl _ _ _, rfl, hB.grown hg hB.size (fun k e => .inl (by have := Option.some.inj e; omega)), e2.grown hg (fun e => by have := Option.some.inj e; omega) (fun e => by have := Option.some.inj e; omega) (fun x hx e => by have := lg x hx; have := Option.some.inj e; omega)⟩
  case stop =>
    rintro D c pre W _ _ h _
    exact h.elim
end Go.Proofs.Ytndbkkldfinggab

/- Two memories with the same pages (Same). -/
import Derived.Test.YtndbkkldfinggabT8
import Derived.Test.YtndbkkldfinggabShelf
namespace Go.Proofs.Ytndbkkldfinggab
open Go.RowKit Go.Shelf
attribute [local go_sem] Oper.semAt_some
set_option maxRecDepth 20000 in
set_option maxHeartbeats 1000000 in
theorem count_any (b r : Nat) (ps : List Pgd) (w : World) (hc : w.cell? ⟨b, 0, none⟩ = some (.map (some r))) (hr : w.heap[r]? = some (.map (entsFrom 0 ps).toArray ps.length)) : Calls Try.prog 39 #[.pointer (some ⟨b, 0, none⟩)] w fun e w' => e = .returned (.int .i64 ps.length) ∧ w' = w := by
  have hlen := run_len_map (P := Try.prog) (w := w) 65 3 r (entsFrom 0 ps).toArray ps.length und42 hr
  rw [List.size_toArray, ents_len] at hlen
  go_enter Try.func39, Try.ntmps39
  go_wp2
  go_ret
  exact ⟨rfl, rfl⟩
theorem ordP_k (ps : List Pgd) (i : Nat) (h : i < ps.length) : pg ps (ordP ps i).k = some (ordP ps i) := by
  have t := ordP_some ps i h
  rw [(pg_k t).1]
  exact t
theorem KeepO.put {b r M B : Nat} (W : World) (l : Nat) (o o' : Obj) (hb : b < B) (hr : r < B) (hM : M < B) (hl : B ≤ l) (ho : W.heap[l]? = some o) (hc : o.isCells = false) : KeepO b r M W (W.putObj l o') := by
  have F : ∀ k, k ≠ l → (W.putObj l o').heap[k]? = W.heap[k]? := fun k hk => World.putObj_heap_other hk
  refine ⟨by simp [World.putObj], F r (by omega), ?_, ?_, fun k cur h => ?_⟩
  · simp only [World.cell?, F b (by omega)]
  · simp only [World.cell?, F M (by omega)]
  · rw [F k (by rintro rfl; rw [h] at ho; cases ho; cases hc)]; exact h
theorem KeepO.below {b r M B : Nat} {W W' : World} (h : Below B W W') (hb : b < B) (hr : r < B) (hM : M < B) (hrow : ∀ (k : Nat) (cur : Array Value), W.heap[k]? = some (Obj.cells cur 23 (0, 0)) → W'.heap[k]? = some (Obj.cells cur 23 (0, 0))) : KeepO b r M W W' := ⟨h.size, h.block r hr, h.cell (p := ⟨b, 0, none⟩) hb, h.cell (p := ⟨M, 0, none⟩) hM, hrow⟩
theorem KeepO.grown {b r M : Nat} {W W' : World} (h : W.grownBy W' none) (hb : b < W.heap.size) (hr : r < W.heap.size) (hM : M < W.heap.size) : KeepO b r M W W' := by
  have F : ∀ k, k < W.heap.size → W'.heap[k]? = W.heap[k]? := fun k hk => h.block k hk (by intro e; cases e)
  exact ⟨h.size, F r hr, by simp only [World.cell?, F b hb], by simp only [World.cell?, F M hM], fun k cur hk => (F k (lt_of_some hk)).trans hk⟩
set_option maxRecDepth 100000 in
set_option maxHeartbeats 2000000 in
theorem same_true (b1 r1 b2 r2 : Nat) (ps1 ps2 : List Pgd) (bt1 bt2 : Nat → Nat → Int) (w : World) (h1 : Mm w b1 r1 ps1 bt1) (h2 : Mm w b2 r2 ps2 bt2) (hl : ps1.length = ps2.length) (hlen : ps1.length ≤ 65536) (heq : ∀ k x, pg ps1 k = some x → ∃ y, pg ps2 k = some y ∧ y.p = x.p ∧ ∀ j, j < 4096 → bt1 x.g j = bt2 y.g j) :
    Calls Try.prog 19 #[.pointer (some ⟨b1, 0, none⟩), .pointer (some ⟨b2, 0, none⟩)] w fun e w' => e = .returned (.bool true) ∧ Below w.heap.size w w' := by
  have HM1 : Hid (Mm w b1 r1 ps1 bt1) := h1
  have HM2 : Hid (Mm w b2 r2 ps2 bt2) := h2
  have l1 := lt_of_cell h1.cell
  have l2 := lt_of_cell h2.cell
  have l3 := lt_of_some h1.map
  have HC1 : Hid (∀ W, Below w.heap.size w W → Calls Try.prog 39 #[.pointer (some ⟨b1, 0, none⟩)] W fun e w' => e = .returned (.int .i64 ps1.length) ∧ w' = W) := fun W hb => count_any b1 r1 ps1 W (h1.below hb).cell (h1.below hb).map
  have HC2 : Hid (∀ W, Below w.heap.size w W → Calls Try.prog 39 #[.pointer (some ⟨b2, 0, none⟩)] W fun e w' => e = .returned (.int .i64 ps1.length) ∧ w' = W) := fun W hb => hl ▸ count_any b2 r2 ps2 W (h2.below hb).cell (h2.below hb).map
  clear h1 h2 hl
  refine (callsIn_wide (n := 9)).1 ?_
  refine callsIn_of_wp_marks Try.func19 rfl trivial ?_ rfl
  simp only [Try.ntmps19, List.size_toArray, List.length_cons, List.length_nil, Nat.reduceAdd, Nat.reduceSub, Array.replicate_succ, Array.replicate_zero, List.push_toArray, List.append_toArray, List.nil_append, List.cons_append]
  gi_wp2_with fail
  obtain ⟨wb, hwb⟩ : ∃ wb, ((w.alloc (.cells #[.pointer (some ⟨b2, 0, none⟩)] 26)).alloc (.cells #[.bool false] 4)) = wb := ⟨_, rfl⟩
  have hBb : Below w.heap.size w wb := by rw [← hwb]; exact ((Below.refl _ w).alloc (Nat.le_refl _) _).alloc (by simp) _
  have bb : Boxed wb w.heap.size 26 (.pointer (some ⟨b2, 0, none⟩)) := by rw [← hwb]; exact (Boxed.new w 26 _).alloc _
  have bo : Boxed wb (w.heap.size + 1) 4 (.bool false) := by rw [← hwb]; have := Boxed.new (w.alloc (.cells #[.pointer (some ⟨b2, 0, none⟩)] 26)) 4 (.bool false); simpa using this
  have hsb : wb.heap.size = w.heap.size + 2 := by rw [← hwb]; simp
  have cb := bb.cell
  have KK : Hid (∀ n b, (b = b1 ∨ b = b2) → Calls Try.prog 39 #[.pointer (some ⟨b, 0, none⟩)] (wb.drewN n) fun e w' => e = .returned (.int .i64 ps1.length) ∧ w' = wb.drewN n) := fun n b hb => by
    have hBn : Below w.heap.size w (wb.drewN n) := ⟨hBb.os, hBb.tape, hBb.output, hBb.size, hBb.block⟩
    rcases hb with rfl | rfl
    · exact HC1.out _ hBn
    · exact HC2.out _ hBn
  rw [hwb]
  clear hwb
  refine wpIn_wide.2 ?_
  go_quiet (first | (go_at_call 39; refine Calls.quiet_of_same (KK.out _ _ (by first | exact .inl rfl | exact .inr rfl))))
  rename_i nq
  have hBq : Below w.heap.size w (wb.drewN nq) := ⟨hBb.os, hBb.tape, hBb.output, hBb.size, hBb.block⟩
  have bq : Boxed (wb.drewN nq) w.heap.size 26 (.pointer (some ⟨b2, 0, none⟩)) := bb
  have oq : Boxed (wb.drewN nq) (w.heap.size + 1) 4 (.bool false) := bo
  have hsq : (wb.drewN nq).heap.size = w.heap.size + 2 := hsb
  clear KK cb bb bo hsb hBb
  generalize wb.drewN nq = wq at *
  gi_wp2_with fail
  refine ⟨trivial, ?_⟩
  refine (callsIn_wide.2 (inOrder36 b1 _)).mono ?_
  rintro e w1 ⟨rfl, e1⟩
  gi_wp2_with fail
  obtain ⟨W0, hW0⟩ : ∃ W0, (wq.alloc (Obj.cells #[.pointer (some ⟨b1, 0, none⟩)] 26)) = W0 := ⟨_, rfl⟩
  have hB0 : Below w.heap.size w W0 := by rw [← hW0]; exact hBq.alloc (by omega) _
  have b0 : Boxed W0 w.heap.size 26 (.pointer (some ⟨b2, 0, none⟩)) := by rw [← hW0]; exact bq.alloc _
  have o0 : Boxed W0 (w.heap.size + 1) 4 (.bool false) := by rw [← hW0]; exact oq.alloc _
  have m0 : Boxed W0 (w.heap.size + 2) 26 (.pointer (some ⟨b1, 0, none⟩)) := by rw [← hW0, ← hsq]; exact Boxed.new wq 26 _
  have hs0 : W0.heap.size = w.heap.size + 3 := by rw [← hW0]; simp [hsq]
  rw [hW0]
  clear hW0 hBq bq oq
  refine wpIn_rangeFunc_ownH rfl (by omega) (gf := 50) (lb := #[.pointer (some ⟨w.heap.size + 2, 0, none⟩)]) rfl trivial (enters_of Try.func50 (by kernel_rfl) rfl)
    (order50 8 b1 r1 (w.heap.size + 2) ps1 W0 (by omega) m0.cell (HM1.out.below hB0).cell (HM1.out.below hB0).map hlen)
    (fun h k => h.trans k)
    (fun W l o o' hl ho hc _ => KeepO.put (B := W0.heap.size) W l o o' (by omega) (by omega) (by omega) hl ho hc)
    (Below.refl _ _) (fun _ => rfl)
    (fun _ W => (Boxed W w.heap.size 26 (.pointer (some ⟨b2, 0, none⟩)) ∧ Boxed W (w.heap.size + 1) 4 (.bool false)) ∧ W0.heap.size ≤ W.heap.size ∧ Below w.heap.size w W)
    (fun _ _ _ => False)
    (fun s A B row hh hg hr => ⟨⟨hh.1.1.kept hg (by intro e; have := (hr _ e.symm).1; omega), hh.1.2.kept hg (by intro e; have := (hr _ e.symm).1; omega)⟩, Nat.le_trans hh.2.1 hg.size, hh.2.2.grown hg hh.2.2.size (fun k e => by have := (hr k e).1; omega)⟩)
    (fun _ _ _ _ _ hs _ _ => hs)
    ⟨⟨b0, o0⟩, Nat.le_refl _, hB0⟩
    (fun x a' W => ∃ q, W0.heap.size ≤ q ∧ W.heap[q]? = some (.cells #[.int .u64 (ordP ps1 x.1).k, .int .i64 (ordP ps1 x.1).p, .slice (some ⟨(ordP ps1 x.1).g, 0, none⟩) 4096 (ordP ps1 x.1).c] 62) ∧ a' = { tmps := #[.pointer (some ⟨b1, 0, none⟩), .pointer (some ⟨b2, 0, none⟩), undef, .pointer (some ⟨w.heap.size, 0, none⟩), .pointer (some ⟨w.heap.size + 1, 0, none⟩), .pointer (some ⟨q, 0, none⟩), undef, undef, .pointer (some ⟨b1, 0, none⟩), .int .i64 ps1.length, .pointer (some ⟨b2, 0, none⟩), .int .i64 ps1.length, .bool false, .pointer (some ⟨b1, 0, none⟩), .func (.func 50) #[] #[.pointer (some ⟨w.heap.size + 2, 0, none⟩)], pval (ordP ps1 x.1), undef, undef, undef, undef, undef, undef, undef, undef, undef, undef, undef, undef, undef, undef, undef, undef, undef, undef, undef, undef, undef, undef, undef, undef], defers := [] })
    (fun x a' s A B row hh hg hr => by obtain ⟨q, h1, h2, h3⟩ := hh; exact ⟨q, h1, (hg.block q (lt_of_some h2) (fun e => by obtain ⟨_, o, ho, hc⟩ := hr q e.symm; rw [h2] at ho; cases ho; cases hc)).trans h2, h3⟩)
    ?assign ?body ?done ?stop
  case assign =>
    intro l pre x W K hI hK
    have HK : Hid (∀ a' W', KeepsFrom W0.heap.size W W' → KeepO b1 r1 (w.heap.size + 2) W W' → ((Boxed W' w.heap.size 26 (.pointer (some ⟨b2, 0, none⟩)) ∧ Boxed W' (w.heap.size + 1) 4 (.bool false)) ∧ W0.heap.size ≤ W'.heap.size ∧ Below w.heap.size w W') → _ → K a' W') := hK
    have HI : Hid ((Boxed W w.heap.size 26 (.pointer (some ⟨b2, 0, none⟩)) ∧ Boxed W (w.heap.size + 1) 4 (.bool false)) ∧ W0.heap.size ≤ W.heap.size ∧ Below w.heap.size w W) := hI
    have hsz := hI.2.1
    clear hK hI
    unfold pval
    gi_wp2
    have hg := World.grownBy_alloc W (.cells #[.int .u64 (ordP ps1 x.1).k, .int .i64 (ordP ps1 x.1).p, .slice (some ⟨(ordP ps1 x.1).g, 0, none⟩) 4096 (ordP ps1 x.1).c] 62) none
    obtain ⟨⟨i1, i2⟩, i3, i4⟩ := HI.out
    exact HK.out _ _ (KeepsFrom.of_grownBy hg (by intro k e; cases e)) (KeepO.grown hg (by omega) (by omega) (by omega)) ⟨⟨i1.alloc _, i2.alloc _⟩, by simp; omega, i4.alloc (by omega) _⟩ ⟨W.heap.size, hsz, heap_at _ _, rfl⟩
  case body =>
    rintro l pre x a' W hl0 _ ⟨⟨hbx, hbo⟩, hsz, hB⟩ ⟨q, hq, hqc, rfl⟩ hlt
    obtain ⟨y, hy1, hy2, hy3⟩ := heq _ _ (ordP_k ps1 x.1 x.2)
    have hxm : ordP ps1 x.1 ∈ ps1 := (pg_k (ordP_k ps1 x.1 x.2)).2
    unfold pval
    generalize ordP ps1 x.1 = xx at *
    obtain ⟨xk, xp, xg, xc⟩ := xx
    obtain ⟨yk, yp, yg, yc⟩ := y
    dsimp only at hy1 hy2 hy3 hqc ⊢
    subst hy2
    have HPg : Hid (∀ W1, Below w.heap.size w W1 → Calls Try.prog 40 #[.pointer (some ⟨b2, 0, none⟩), .int .u64 xk] W1 fun e w' => e = .returned (.tuple #[.agg #[.int .u64 xk, .int .i64 yp, .slice (some ⟨yg, 0, none⟩) 4096 yc], .bool true]) ∧ Below W1.heap.size W1 w') := fun W1 hb => page_some (HM2.out.below hb) hy1
    have hy4 : ⟨yk, yp, yg, yc⟩ ∈ ps2 := (pg_k hy1).2
    have HEq : Hid (∀ W1, Below w.heap.size w W1 → Calls Try.prog 41 #[.slice (some ⟨xg, 0, none⟩) 4096 xc, .slice (some ⟨yg, 0, none⟩) 4096 yc] W1 fun e w' => e = .returned (.bool true) ∧ w' = W1) := fun W1 hb => by
      have t := Try.bytes_Equal_all (some ⟨xg, 0, none⟩) (some ⟨yg, 0, none⟩) 4096 xc 4096 yc ((List.range 4096).map (bt2 yg)) ((List.range 4096).map (bt2 yg)) W1 (by simp) (by simp)
        (fun _ => ⟨xg, 0, rfl, fun i hi => by rw [Nat.zero_add, (HM1.out.below hb).data _ hxm i hi]; simp [hy3 i hi, hi, List.getD]⟩)
        (fun _ => ⟨yg, 0, rfl, fun i hi => by rw [Nat.zero_add, (HM2.out.below hb).data _ hy4 i hi]; simp [hi, List.getD]⟩)
      rw [beq_self_eq_true] at t
      exact t
    have c1 := hbx.cell
    have c2 : W.cell? ⟨q, 0, none⟩ = some (.int .u64 xk) := by simp [World.cell?, hqc]
    have c3 : W.cell? ⟨q, 1, none⟩ = some (.int .i64 yp) := by simp [World.cell?, hqc]
    have c4 : W.cell? ⟨q, 2, none⟩ = some (.slice (some ⟨xg, 0, none⟩) 4096 xc) := by simp [World.cell?, hqc]
    have ql : q < W.heap.size := lt_of_some hqc
    have HB : Hid (Below w.heap.size w W) := hB
    have HX : Hid (Boxed W w.heap.size 26 (.pointer (some ⟨b2, 0, none⟩)) ∧ Boxed W (w.heap.size + 1) 4 (.bool false)) := ⟨hbx, hbo⟩
    clear hy1 hy3 hy4 hxm hqc hB hbx hbo
    gi_wp2_with (refine ⟨trivial, ?_⟩; first | (gi_at_call 40; refine (callsIn_wide.2 (HPg.out _ HB.out)).mono ?_; rintro e w4 ⟨rfl, hb4⟩; have hs4 := hb4.size; have ql4 : q < w4.heap.size := Nat.lt_of_lt_of_le ql hs4; have d3 : w4.cell? ⟨q, 1, none⟩ = some (.int .i64 yp) := (hb4.cell (p := ⟨q, 1, none⟩) ql).trans c3; have d4 : w4.cell? ⟨q, 2, none⟩ = some (.slice (some ⟨xg, 0, none⟩) 4096 xc) := (hb4.cell (p := ⟨q, 2, none⟩) ql).trans c4; have HB4 : Hid (Below w.heap.size w w4) := HB.out.trans (hb4.mono HB.out.size); have Hb4 : Hid (Below W.heap.size W w4) := hb4; clear hb4 c1 c2 c3 c4) | (gi_at_call 41; refine (callsIn_wide.2 (HEq.out _ (HB4.out.alloc HB4.out.size _))).mono ?_; rintro e w5 ⟨rfl, rfl⟩))
    have hg := grown_of_below (Hb4.out.alloc hs4 (.cells #[.int .u64 xk, .int .i64 yp, .slice (some ⟨yg, 0, none⟩) 4096 yc] 62))
    exact ⟨KeepsFrom.of_grownBy hg (by intro k e; cases e), KeepO.grown hg (by omega) (by omega) (by omega), ⟨HX.out.1.kept hg (by intro e; cases e), HX.out.2.kept hg (by intro e; cases e)⟩, Nat.le_trans hsz hg.size, HB4.out.alloc HB4.out.size _⟩
  case done =>
    rintro D ys W hD hS ⟨⟨hbx, hbo⟩, hsz, hB⟩ hK
    have hc := hbo.cell
    have hf := hbo.frozen
    have hB1 : Below w.heap.size w (W.setCell ⟨w.heap.size + 1, 0, none⟩ (.bool true)) := hB.setCell (p := ⟨w.heap.size + 1, 0, none⟩) (by show _ ≤ w.heap.size + 1; omega) _
    have hK1 : (W.setCell ⟨w.heap.size + 1, 0, none⟩ (.bool true)).heap[D]? = some (.deferred (some [])) := (Below.heap_setCell _ _ _ _ (by show D ≠ w.heap.size + 1; omega)).trans hK
    have hc2 : ((W.setCell ⟨w.heap.size + 1, 0, none⟩ (.bool true)).putObj D (.deferred none)).cell? ⟨w.heap.size + 1, 0, none⟩ = some (.bool true) := ((hbo.set (.bool true)).kept (grownBy_putObj' _ D _) (by intro e; cases e; omega)).cell
    gi_wp2
    refine ⟨by simp, .inl ⟨_, _, rfl, run_takeDeferred hK1, ?_⟩⟩
    exact ⟨.bool true, by simp [results, Try.results19, go_sem, hc2], rfl, hB1.trans (belowK_b (w := w) (Nat.le_refl _) _ D _ (.deferred none) (by omega) hK1 rfl rfl)⟩
  case stop =>
    rintro D c pre W _ _ h _
    exact h.elim
end Go.Proofs.Ytndbkkldfinggab

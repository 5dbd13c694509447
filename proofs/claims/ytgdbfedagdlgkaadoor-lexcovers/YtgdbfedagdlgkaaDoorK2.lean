/- The tokens cover the source: the law. -/
import Derived.Test.YtgdbfedagdlgkaaDoorJ3
import Derived.Test.YtgdbfedagdlgkaaDoorK1
namespace Go.Proofs.YtgdbfedagdlgkaaDoor
open Go.RowKit Go.Shelf
set_option maxRecDepth 100000 in
set_option maxHeartbeats 4000000 in
theorem law8_bad (s : ByteArray) (w : World) (hT : Tb w) (hs : s.size ≤ 140737488355328) (c : Int) (f t : Nat) (hr : tokR s = .bad c f t) : Calls Tryd.prog 8 #[.string s] w fun e w' => e = .returned (.bool true) ∧ Below w.heap.size w w' := by
  obtain ⟨hc, hft, hts⟩ := tokR_bad hr
  have H9 : Hid (∀ W, Below w.heap.size w W → Calls Tryd.prog 9 #[.string s] W fun e w' => e = .returned (.tuple #[.slice none 0 0, .agg #[.int .i64 c, .int .i64 f, .int .i64 t]]) ∧ Below W.heap.size W w') := fun W hW => (tokens9 s W (hT.below hW (Nat.le_refl _)) hs).mono fun e w' h => by
    rw [hr] at h
    exact ⟨h.2, h.1⟩
  have H12 : Hid (∀ W, Below w.heap.size w W → Calls Tryd.prog 12 #[] W fun e w' => e = .returned (.bool true) ∧ Below W.heap.size W w') := fun W hW => small12 W (hT.below hW (Nat.le_refl _))
  clear hT hr
  go_enter Tryd.func8, Tryd.ntmps8
  go_wp2_with fail
  refine (H9.out _ (Below.refl _ _)).mono ?_
  rintro e w1 ⟨rfl, hb⟩
  have HB1 : Hid (Below w.heap.size w (w1.alloc (dgO c f t))) := hb.alloc hb.size _
  obtain ⟨x0, x1, x2, x3⟩ := dg_cells (at_dg w1 c f t)
  clear hb
  go_wp2_with fail
  refine (H12.out _ HB1.out).mono ?_
  rintro e w4 ⟨rfl, hb⟩
  have HB4 : Hid (Below w.heap.size w w4) := HB1.out.trans (hb.mono HB1.out.size)
  clear hb
  go_wp2
  go_ret
  exact ⟨rfl, HB4.out⟩
def tkO (k : Int) (t : ByteArray) (v f e : Int) : Obj := .cells #[.int .i64 k, .string t, .int .i64 v, .int .i64 f, .int .i64 e] 42 (0, 0)
theorem tko_cells {W : World} {g : Nat} {k : Int} {t : ByteArray} {v f e : Int} (h : W.heap[g]? = some (tkO k t v f e)) : W.cell? ⟨g, 0, none⟩ = some (.int .i64 k) ∧ W.cell? ⟨g, 1, none⟩ = some (.string t) ∧ W.cell? ⟨g, 2, none⟩ = some (.int .i64 v) ∧ W.cell? ⟨g, 3, none⟩ = some (.int .i64 f) ∧ W.cell? ⟨g, 4, none⟩ = some (.int .i64 e) :=
  ⟨Joins.cell_of_block h 0, Joins.cell_of_block h 1, Joins.cell_of_block h 2, Joins.cell_of_block h 3, Joins.cell_of_block h 4⟩
theorem at_newO (w : World) (o : Obj) : (w.alloc o).heap[w.heap.size]? = some o := by
  show (w.heap.push _)[w.heap.size]? = _
  simp
set_option maxRecDepth 100000 in
set_option maxHeartbeats 4000000 in
theorem law8_ok (s : ByteArray) (w : World) (hT : Tb w) (hs : s.size ≤ 65536) (l : List Tk) (hr : tokR s = .ok l) : Calls Tryd.prog 8 #[.string s] w fun e w' => e = .returned (.bool true) ∧ Below w.heap.size w w' := by
  have HC : Hid (Cov s 0 l) := (tokR_ok hr).2
  have H9 : Hid (∀ W, Below w.heap.size w W → Calls Tryd.prog 9 #[.string s] W fun e w' => ∃ v, e = .returned (.tuple #[v, .agg #[.int .i64 0, .int .i64 0, .int .i64 0]]) ∧ TkS w' v l ∧ Below W.heap.size W w') := fun W hW => (tokens9 s W (hT.below hW (Nat.le_refl _)) (by omega)).mono fun e w' h => by
    rw [hr] at h
    obtain ⟨v, h1, h2, h3⟩ := cutQ_open h
    exact ⟨v, h1, h2, h3⟩
  have H12 : Hid (∀ W, Below w.heap.size w W → Calls Tryd.prog 12 #[] W fun e w' => e = .returned (.bool true) ∧ Below W.heap.size W w') := fun W hW => small12 W (hT.below hW (Nat.le_refl _))
  obtain ⟨n, hn⟩ : ∃ n, n = l.length := ⟨_, rfl⟩
  clear hT hr
  go_enter Tryd.func8, Tryd.ntmps8
  go_wp2_with fail
  refine (H9.out _ (Below.refl _ _)).mono ?_
  rintro e w1 ⟨va, rfl, hva, hb⟩
  rcases hva with ⟨rfl, rfl⟩ | ⟨g, c, rfl, ⟨hc1, hc2⟩, hcell⟩
  · exact absurd HC.out (by unfold Cov; exact id)
  obtain ⟨W0, hW0⟩ : ∃ W, W = w1.alloc (dgO 0 0 0) := ⟨_, rfl⟩
  have HCE : Hid (∀ i x, l[i]? = some x → ∀ j y, (tkc x)[j]? = some y → W0.cell? ⟨g, i * 5 + j, none⟩ = some y) := fun i x hx j y hy => by
    have t := hcell i x hx j y hy
    rw [hW0, ((Below.refl _ w1).alloc (Nat.le_refl _) _).cell (p := ⟨g, i * 5 + j, none⟩) (World.block_lt_of_cell? _ _ t)]
    exact t
  rw [← hn] at hc1 ⊢
  have HN : Hid (n = l.length) := hn
  have HB1 : Hid (Below w.heap.size w W0) := by rw [hW0]; exact hb.alloc hb.size _
  have HW0 : Hid (W0 = w1.alloc (dgO 0 0 0)) := hW0
  obtain ⟨x0, x1, x2, x3⟩ := dg_cells (at_dg w1 0 0 0)
  have hn2 : n ≤ 9223372036854775807 := by omega
  have c42 := cells42
  clear hb hcell hn hW0
  go_wp2
  clear x0 x1 x2 x3
  go_loopw [5, 45] (fun a' i wx => ∃ k a : Nat, k ≤ n ∧ a' = .int .i64 a ∧ i = .int .i64 k ∧ Below W0.heap.size W0 wx ∧ ((k < n ∧ Cov s a (l.drop k)) ∨ (k = n ∧ a = s.size))) (fun _ i _ => n - (intOf i).toNat)
  case atStart =>
    refine ⟨0, 0, Nat.zero_le _, rfl, rfl, by rw [HW0.out]; exact Below.refl _ _, .inl ⟨?_, HC.out⟩⟩
    have := HN.out
    have hC := HC.out
    cases l with
    | nil => exact absurd hC (by unfold Cov; exact id)
    | cons x r => simp at this; omega
  case round =>
    obtain ⟨k, a, hk, rfl, rfl, hB, hcase⟩ := hrel
    by_cases hlt : k < n
    · obtain ⟨x, hx⟩ : ∃ x, l[k]? = some x := ⟨_, List.getElem?_eq_getElem (by have := HN.out; omega)⟩
      have hCv : Cov s a (l.drop k) := by
        rcases hcase with h | h
        · exact h.2
        · omega
      have hdr : l.drop k = x :: l.drop (k + 1) := by
        obtain ⟨hk', he⟩ := List.getElem?_eq_some_iff.1 hx
        rw [← he]
        exact (List.drop_eq_getElem_cons hk')
      rw [hdr] at hCv
      obtain ⟨⟨hx1, hx2, hx3⟩, hx4, hx5, hx6⟩ := hCv
      obtain ⟨a0, a1, a2, a3, a4⟩ := tk_cells (W := wr) (g := g) (fun i x hx j y hy => by
        have t := HCE.out i x hx j y hy
        rw [hB.cell (p := ⟨g, i * 5 + j, none⟩) (World.block_lt_of_cell? _ _ t)]
        exact t) hx
      have H10 : Hid (∀ W, Calls Tryd.prog 10 #[.string (s.extract a x.fr)] W fun e w' => ∃ g2 cc, e = .returned (.tuple #[.slice (some ⟨g2, 0, none⟩) 1 cc, .agg #[.int .i64 0, .int .i64 0, .int .i64 0]]) ∧ Below W.heap.size W w') := fun W => (rtokens10 _ W (by rw [ext_len s (by omega)]; omega)).mono fun e w' h => by
        rw [hx5] at h
        obtain ⟨v, rfl, hv, hbb⟩ := cutQ_open h
        rcases hv with ⟨_, h⟩ | ⟨g2, cc, rfl, _, _⟩
        · exact absurd h (by simp [lstR])
        · exact ⟨g2, cc, rfl, hbb⟩
      have HX6 : Hid ((k + 1 < n ∧ Cov s x.en (l.drop (k + 1))) ∨ (k + 1 = n ∧ x.en = s.size)) := by
        have hN := HN.out
        have hL : (l.drop (k + 1)).length = n - (k + 1) := by rw [List.length_drop, ← hN]
        rcases hx6 with ⟨h1, h2, h3⟩ | ⟨h1, h2⟩
        · rw [h2] at hL
          simp only [List.length_nil] at hL
          exact .inr ⟨by omega, h3⟩
        · have : ¬ (l.drop (k + 1)).length = 0 := fun h => by
            rw [List.eq_nil_of_length_eq_zero h] at h2
            exact h2
          exact .inl ⟨by omega, h2⟩
      have HBx : Hid (Below W0.heap.size W0 wr) := hB
      have hlast : (x.k == 5) = decide ((k : Int) = (n : Int) - 1) := by
        have hN := HN.out
        have hL : (l.drop (k + 1)).length = n - (k + 1) := by rw [List.length_drop, ← hN]
        rcases hx6 with ⟨h1, h2, _⟩ | ⟨h1, h2⟩
        · rw [h2] at hL
          simp only [List.length_nil] at hL
          rw [h1, decide_eq_true (by omega)]
          rfl
        · have : ¬ (l.drop (k + 1)).length = 0 := fun h => by
            rw [List.eq_nil_of_length_eq_zero h] at h2
            exact h2
          rw [decide_eq_false (by omega)]
          simpa using h1
      clear hB hcase hx hdr hx5 hx6
      generalize hkk : x.k = K at *
      generalize hff : x.fr = F at *
      generalize hee : x.en = E at *
      rw [← hx4] at a1
      clear hkk hff hee hx4
      have hlb : ∃ b : Bool, (K == 5) = b ∧ ((k : Int) == (n : Int) - 1) = b := ⟨_, hlast, by rw [Bool.eq_iff_iff]; simp⟩
      obtain ⟨b, hb1, hb2⟩ := hlb
      clear hlast
      have hsub : IntKind.i64.wrap ((n : Int) - 1) = (n : Int) - 1 := by simp [IntKind.wrap, IntKind.bits, IntKind.signed]; omega
      cases b
      · go_wp2
        obtain ⟨c0, c1, c2, c3, c4⟩ := tko_cells (at_newO wr (tkO K (s.extract F E) x.v F E))
        have HB2 : Hid (Below W0.heap.size W0 (wr.alloc (tkO K (s.extract F E) x.v F E))) := HBx.out.alloc HBx.out.size _
        have HA : Hid ((wr.alloc (tkO K (s.extract F E) x.v F E)).heap[wr.heap.size]? = some (tkO K (s.extract F E) x.v F E)) := at_newO _ _
        unfold tkO at c0 c1 c2 c3 c4
        clear a0 a1 a2 a3 a4
        go_quiet (fail)
        go_wp2_with fail
        refine (H10.out _).mono ?_
        rintro e w2 ⟨g2, cc, rfl, hb⟩
        clear c0 c1 c2 c3 c4
        have hb' : Below (wr.alloc (tkO K (s.extract F E) x.v F E)).heap.size (wr.alloc (tkO K (s.extract F E) x.v F E)) w2 := (Below.refl _ _ |> (below_drewN · nq)).trans hb
        have HB3 : Hid (Below W0.heap.size W0 (w2.alloc (dgO 0 0 0))) := (HB2.out.trans (hb'.mono HB2.out.size)).alloc (HB2.out.trans (hb'.mono HB2.out.size)).size _
        obtain ⟨y0, y1, y2, y3⟩ := dg_cells (at_dg w2 0 0 0)
        obtain ⟨c0, c1, c2, c3, c4⟩ := tko_cells (keep_block (keep_block HA.out hb') ((Below.refl _ w2).alloc (Nat.le_refl _) (dgO 0 0 0)))
        clear hb hb' HA HB2 H10 y0 y1 y2 y3
        unfold dgO at c0 c1 c2 c3 c4
        go_wp2
        exact ⟨⟨k + 1, E, by omega, rfl, by simp, HB3.out, HX6.out⟩, by simp [intOf]; omega⟩
      · go_wp2
        obtain ⟨c0, c1, c2, c3, c4⟩ := tko_cells (at_newO wr (tkO K (s.extract F E) x.v F E))
        have HB2 : Hid (Below W0.heap.size W0 (wr.alloc (tkO K (s.extract F E) x.v F E))) := HBx.out.alloc HBx.out.size _
        have HA : Hid ((wr.alloc (tkO K (s.extract F E) x.v F E)).heap[wr.heap.size]? = some (tkO K (s.extract F E) x.v F E)) := at_newO _ _
        unfold tkO at c0 c1 c2 c3 c4
        clear a0 a1 a2 a3 a4
        go_quiet (fail)
        go_wp2_with fail
        refine (H10.out _).mono ?_
        rintro e w2 ⟨g2, cc, rfl, hb⟩
        clear c0 c1 c2 c3 c4
        have hb' : Below (wr.alloc (tkO K (s.extract F E) x.v F E)).heap.size (wr.alloc (tkO K (s.extract F E) x.v F E)) w2 := (Below.refl _ _ |> (below_drewN · nq)).trans hb
        have HB3 : Hid (Below W0.heap.size W0 (w2.alloc (dgO 0 0 0))) := (HB2.out.trans (hb'.mono HB2.out.size)).alloc (HB2.out.trans (hb'.mono HB2.out.size)).size _
        obtain ⟨y0, y1, y2, y3⟩ := dg_cells (at_dg w2 0 0 0)
        obtain ⟨c0, c1, c2, c3, c4⟩ := tko_cells (keep_block (keep_block HA.out hb') ((Below.refl _ w2).alloc (Nat.le_refl _) (dgO 0 0 0)))
        clear hb hb' HA HB2 H10 y0 y1 y2 y3
        unfold dgO at c0 c1 c2 c3 c4
        go_wp2
        exact ⟨⟨k + 1, E, by omega, rfl, by simp, HB3.out, HX6.out⟩, by simp [intOf]; omega⟩
    · obtain rfl : k = n := by omega
      obtain rfl : a = s.size := by
        rcases hcase with h | h
        · omega
        · exact h.2
      have HB2 : Hid (Below w.heap.size w wr) := HB1.out.trans (hB.mono HB1.out.size)
      clear hcase hB
      go_wp2_with fail
      refine (H12.out _ HB2.out).mono ?_
      rintro e w4 ⟨rfl, hb⟩
      have HB4 : Hid (Below w.heap.size w w4) := HB2.out.trans (hb.mono HB2.out.size)
      clear hb
      go_wp2
      go_ret
      exact ⟨rfl, HB4.out⟩
theorem law8 (s : ByteArray) (w : World) (hT : Tb w) (hs : s.size ≤ 140737488355328) : Calls Tryd.prog 8 #[.string s] w fun e w' => e = .returned (.bool true) ∧ Below w.heap.size w w' := by
  cases hr : tokR s with
  | ok l => exact law8_ok s w hT (tokR_ok hr).1 l hr
  | bad c f t => exact law8_bad s w hT hs c f t hr
end Go.Proofs.YtgdbfedagdlgkaaDoor
